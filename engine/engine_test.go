package engine_test

import (
	"math"
	"math/rand"
	"reflect"
	"runtime/debug"
	"slices"
	"strconv"
	"strings"
	"testing"

	"querist/api"
	"querist/engine"
	"querist/read"
	"querist/solve"
)

func variable(n int) api.Term { return api.Term{Kind: api.Var, N: n} }

func atom(s string) api.Term { return api.Term{Kind: api.Atom, S: s} }

func number(n int) api.Term { return api.Term{Kind: api.Int, N: n} }

func comp(s string, args ...api.Term) api.Term {
	return api.Term{Kind: api.Comp, S: s, Args: args}
}

func answer(l ...api.Term) api.Event { return api.Event{Kind: api.Answer, Terms: l} }

// P7.1
func TestLine(t *testing.T) {
	a := atom("a")
	for _, c := range []struct {
		e    api.Event
		want string
	}{
		{answer(), "yes"},
		{api.Event{Kind: api.Answer, Terms: []api.Term{}}, "yes"},
		{answer(a), "yes 0=a"},
		{answer(number(1)), "yes 0=1"},
		{answer(atom("nil"), comp("cons", number(1), atom("nil"))), "yes 0=nil 1=cons(1,nil)"},
		{answer(variable(0), number(-4)), "yes 0=A 1=-4"},
		{answer(variable(1), variable(0), variable(1)), "yes 0=B 1=A 2=B"},
		{answer(variable(25), variable(26), variable(-1)), "yes 0=Z 1=Zz 2=Zz"},
		{answer(comp("f", variable(0), comp("g", variable(1), atom("!"))), number(0)), "yes 0=f(A,g(B,!)) 1=0"},
		{answer(number(api.MaxNumber), number(math.MinInt)), "yes 0=1099511627776 1=-9223372036854775808"},
		// Terms that no answer of run.All has.
		{answer(api.Term{Kind: 4, S: "s"}, a, api.Term{Kind: -1, N: 1}), "yes 0= 1=a 2="},
		{answer(atom(""), atom("no name"), comp("f", api.Term{Kind: 4})), "yes 0= 1=no name 2=f()"},
		{answer(slices.Repeat([]api.Term{a}, 12)...), "yes 0=a 1=a 2=a 3=a 4=a 5=a 6=a 7=a 8=a 9=a 10=a 11=a"},
		{api.Event{Kind: api.Done}, "done"},
		{api.Event{Kind: api.Fuel}, "fuel"},
		{api.Event{Kind: api.Large}, "large"},
		{api.Event{Kind: api.Fault}, "fault"},
		{api.Event{Kind: api.Enough}, "enough"},
		{api.Event{Kind: api.Done, Terms: []api.Term{a}}, "done"},
		{api.Event{Kind: api.Enough, Terms: []api.Term{a, a}}, "enough"},
		{api.Event{}, ""},
		{api.Event{Terms: []api.Term{a}}, ""},
		{api.Event{Kind: 7}, ""},
		{api.Event{Kind: 7, Terms: []api.Term{a}}, ""},
		{api.Event{Kind: 8}, ""},
		{api.Event{Kind: -1}, ""},
		{api.Event{Kind: -6}, ""},
		{api.Event{Kind: 1 << 32}, ""},
		{api.Event{Kind: 1<<32 + api.Answer}, ""},
		{api.Event{Kind: math.MaxInt}, ""},
		{api.Event{Kind: math.MinInt}, ""},
	} {
		if got := engine.Line(c.e); got != c.want {
			t.Errorf("Line(%+v) = %q, not %q", c.e, got, c.want)
		}
	}
}

// An answer may have more terms, and deeper ones, than those of run.All. The lower limit of the call stack stands for still deeper terms.
func TestLargeLines(t *testing.T) {
	const many = 1 << 18
	want := "yes"
	parts := []string{want}
	for i := range many {
		parts = append(parts, " ", strconv.Itoa(i), "=7")
	}
	if got := engine.Line(answer(slices.Repeat([]api.Term{number(7)}, many)...)); got != strings.Join(parts, "") {
		t.Errorf("many terms: %d bytes", len(got))
	}
	defer debug.SetMaxStack(debug.SetMaxStack(1 << 24))
	const depth = 1 << 20
	x := number(7)
	for range depth {
		x = comp("f", x)
	}
	if got := engine.Line(answer(x)); got != "yes 0="+strings.Repeat("f(", depth)+"7"+strings.Repeat(")", depth) {
		t.Errorf("deep term: %d bytes", len(got))
	}
}

func TestLineChangesNothing(t *testing.T) {
	l := []api.Term{comp("f", variable(3), atom("a")), variable(3), atom("spare")}
	l[0].Args = append(l[0].Args, atom("spare"))[:2]
	whole := func() []api.Term { return append([]api.Term{}, append(l[:3:3], l[0].Args[:3]...)...) }
	before := whole()
	engine.Line(answer(l[:2]...))
	engine.Line(api.Event{Kind: api.Done, Terms: l[:2]})
	if !reflect.DeepEqual(whole(), before) {
		t.Errorf("%+v, not %+v", whole(), before)
	}
}

// periods are some values of every: the heap is collected never, before each goal, before some goals, or before the first one only.
func periods() []int { return []int{0, 1, 2, 3, 7, api.MaxFuel, math.MaxInt} }

// P7.2
func TestAsk(t *testing.T) {
	const app = "app(nil,X,X). app(cons(A,X),Y,cons(A,Z)) :- app(X,Y,Z)."
	const nat = "nat(z). nat(s(X)) :- nat(X)."
	for _, c := range []struct {
		program, query string
		fuel           int
		want           string // the lines, separated by |
	}{
		// The examples of the document.
		{app, "app(X,Y,cons(1,nil)).", 150, "yes 0=nil 1=cons(1,nil)|yes 0=cons(1,nil) 1=nil|done"},
		{"p(1). p(2). r(X) :- p(X), !.", "r(X).", 150, "yes 0=1|done"},
		{nat, "nat(X).", 5, "yes 0=z|yes 0=s(z)|yes 0=s(s(z))|yes 0=s(s(s(z)))|yes 0=s(s(s(s(z))))|fuel"},
		{"p.", "eq(X,f(X)).", 9, "done"},
		// Each end.
		{"p.", "p.", 1, "yes|done"},
		{"p.", "p.", 0, "fuel"},
		{"p.", "q.", 1, "fault"},
		{"p.", "less(X,1).", 150, "fault"},
		{"p(1). p(2) :- q.", "p(X).", 150, "yes 0=1|fault"},
		{"d(X,f(X,X,X,X)).", "d(X,A), d(A,B), d(B,C), d(C,D).", 150, "large"},
		{nat, "nat(s(X)), nat(Y), fail.", 150, "fuel"},
		{"p(X). p(Y) :- p(Y).", "p(0).", 150, strings.Repeat("yes|", api.MaxAnswers) + "enough"},
		// Without clauses.
		{"", "p.", 150, "fault"},
		{" \n", "eq(X,1).", 150, "yes 0=1|done"},
		// Variables are numbered as they occur in the query, and named as they occur in the answer.
		{"p(2,1).", "p(Y,X).", 9, "yes 0=2 1=1|done"},
		{"p.", "eq(f(X,Y),f(Y,Z)).", 9, "yes 0=A 1=A 2=A|done"},
		{"p(B,A).", "p(f(Z),Y), eq(X,g(Y,Z)).", 9, "yes 0=A 1=B 2=g(B,A)|done"},
		{app, "app(X,Y,Z).", 2, "yes 0=nil 1=A 2=A|yes 0=cons(A,nil) 1=B 2=cons(A,B)|fuel"},
		{"p(!,-7,zero,0).", "p(A,B,C,D).", 9, "yes 0=! 1=-7 2=zero 3=0|done"},
		{"v(f(A,B,C,D)).", "v(A),v(B),v(C),eq(D,f(A,B,C,f(X,Y,Z,E))).", 9, "yes 0=f(A,B,C,D) 1=f(E,F,G,H) 2=f(I,J,K,L) 3=f(f(A,B,C,D),f(E,F,G,H),f(I,J,K,L),f(M,N,O,P)) 4=M 5=N 6=O 7=P|done"},
		{"w(f(A,B,C,D)). v(f(A,B,C,D)) :- w(A), w(B), w(C), w(D).", "v(X), v(Y).", 150,
			"yes 0=f(f(A,B,C,D),f(E,F,G,H),f(I,J,K,L),f(M,N,O,P)) 1=f(f(Q,R,S,T),f(U,V,W,X),f(Y,Z,Zz,Zz),f(Zz,Zz,Zz,Zz))|done"},
	} {
		for _, every := range periods() {
			l, e := engine.Ask(c.program, c.query, c.fuel, every)
			if got := strings.Join(l, "|"); e != api.OK || got != c.want {
				t.Errorf("%s ?- %s (%d, %d): %s, %d, not %s", c.program, c.query, c.fuel, every, got, e, c.want)
			}
		}
	}
}

func TestErrorsOfAsk(t *testing.T) {
	long := "p." + strings.Repeat(" ", api.MaxSource-1)
	for _, c := range []struct {
		program, query string
		fuel, every    int
		want           api.Errno
	}{
		{"p.", "p.", 0, 0, api.OK},
		{"p.", "p.", api.MaxFuel, math.MaxInt, api.OK},
		{long[:api.MaxSource], long[:api.MaxSource], 1, 1, api.OK},
		{strings.Repeat("p.", api.MaxClauses), "p.", 1, 1, api.OK},
		// The program.
		{"p", "p.", 1, 0, api.ErrForm},
		{"P.", "p.", 1, 0, api.ErrForm},
		{"true.", "p.", 1, 0, api.ErrForm},
		{"p:-p,p,p,p,p,p.", "p.", 1, 0, api.ErrForm},
		{long, "p.", 1, 0, api.ErrLong},
		{strings.Repeat("p.", api.MaxClauses+1), "p.", 1, 0, api.ErrLong},
		// The query.
		{"p.", "", 1, 0, api.ErrForm},
		{"p.", "p", 1, 0, api.ErrForm},
		{"p.", "X.", 1, 0, api.ErrForm},
		{"p.", "p:-p.", 1, 0, api.ErrForm},
		{"p.", "p,p,p,p,p,p.", 1, 0, api.ErrForm},
		{"p.", long, 1, 0, api.ErrLong},
		// The numbers.
		{"p.", "p.", -1, 0, api.ErrRange},
		{"p.", "p.", math.MinInt, 0, api.ErrRange},
		{"p.", "p.", api.MaxFuel + 1, 0, api.ErrRange},
		{"p.", "p.", math.MaxInt, 0, api.ErrRange},
		{"p.", "p.", 1, -1, api.ErrRange},
		{"p.", "p.", 1, math.MinInt, api.ErrRange},
		// Several errors: the program comes first, then the query.
		{long, "p", 1, 0, api.ErrLong},
		{strings.Repeat("p.", api.MaxClauses+1), "p", 1, 0, api.ErrLong},
		{"p", long, 1, 0, api.ErrForm},
		{"p", "p.", -1, 0, api.ErrForm},
		{long, "p.", 1, -1, api.ErrLong},
		{"p", long, -1, -1, api.ErrForm},
		{long, "p", -1, -1, api.ErrLong},
		{"p.", "p", -1, 0, api.ErrForm},
		{"p.", "p", 1, -1, api.ErrForm},
		{"p.", long, api.MaxFuel + 1, 0, api.ErrLong},
		{"p.", long, 1, -1, api.ErrLong},
	} {
		l, e := engine.Ask(c.program, c.query, c.fuel, c.every)
		if e != c.want || (e == api.OK) != (len(l) > 0) {
			t.Errorf("Ask(%.20q, %.20q, %d, %d) = %q, %d, not %d", c.program, c.query, c.fuel, c.every, l, e, c.want)
		}
	}
}

// wanted is what Ask should return, found by resolution on terms.
func wanted(program, query string, fuel int) ([]string, api.Errno) {
	p, e := read.Program(program)
	q, vars, f := read.Query(query)
	if e == api.OK {
		e = f
	}
	if e != api.OK {
		return nil, e
	}
	events, e := solve.All(p, q, vars, fuel)
	var l []string
	for _, event := range events {
		l = append(l, engine.Line(event))
	}
	return l, e
}

// Texts that are put together at random from clauses and goals, with a damaged byte here and there.
func TestRandomTexts(t *testing.T) {
	random := rand.New(rand.NewSource(7))
	clauses := []string{
		"p(1). ", "p(2). ", "p(f(X)). ", "p(X) :- q(X,Y), p(Y).\n", "p(X) :- !, q(X,1). ", "q(X,X). ", "q(1,2). ", "q(X,g(X,Y)) :- p(Y). ", "q(X,Y) :- less(X,Y), !. ",
		"q(X,Y) :- add(X,1,Y), q(Y,Z). ", "app(nil,X,X). ", "app(c(A,X),Y,c(A,Z)) :- app(X,Y,Z). ", "a. ", "a :- p(X), fail. ",
	}
	goals := []string{"p(X)", "p(Y)", "q(X,Y)", "q(Y,Z)", "q(1,X)", "app(X,Y,c(1,c(Z,nil)))", "app(X,c(1,Y),Z)", "a", "!", "true", "fail", "eq(X,f(Y))", "eq(Z,Y)", "less(X,3)", "add(1,2,X)", "b"}
	pick := func(l []string, n int) []string {
		var out []string
		for range n {
			out = append(out, l[random.Intn(len(l))])
		}
		return out
	}
	damage := func(s string) string {
		if random.Intn(20) > 0 {
			return s
		}
		i := random.Intn(len(s))
		return s[:i] + pick([]string{"", ",", ".", "X", ")", ":-", "#"}, 1)[0] + s[i+1:]
	}
	seen := map[string]int{}
	for range 4000 {
		// With the first clauses each predicate but b has one.
		program := []string{"", "p(Z). q(0,X). app(X,nil,X). a. "}[min(random.Intn(4), 1)]
		program = damage(program + strings.Join(pick(clauses, 1+random.Intn(12)), ""))
		query := damage(strings.Join(pick(goals, 1+random.Intn(4)), ", ") + ".")
		fuel := random.Intn(api.MaxFuel + 1)
		every := random.Intn(12)
		want, errno := wanted(program, query, fuel)
		l, e := engine.Ask(program, query, fuel, every)
		if e != errno || !slices.Equal(l, want) {
			t.Fatalf("Ask(%q, %q, %d, %d) = %q, %d, not %q, %d", program, query, fuel, every, l, e, want, errno)
		}
		end := strconv.Itoa(int(e))
		if e == api.OK {
			end = l[len(l)-1]
			seen["yes"] += len(l) - 1
		}
		seen[end]++
	}
	for _, end := range []string{"yes", "done", "fuel", "fault", "enough", "1"} {
		if seen[end] < 50 {
			t.Errorf("too few of %s: %v", end, seen)
		}
	}
}
