package run_test

import (
	"math"
	"reflect"
	"slices"
	"strconv"
	"strings"
	"testing"

	"querist/api"
	"querist/read"
	"querist/run"
	"querist/solve"
	"querist/term"
)

func variable(n int) api.Term { return api.Term{Kind: api.Var, N: n} }

func atom(s string) api.Term { return api.Term{Kind: api.Atom, S: s} }

func number(n int) api.Term { return api.Term{Kind: api.Int, N: n} }

func comp(s string, args ...api.Term) api.Term {
	return api.Term{Kind: api.Comp, S: s, Args: args}
}

// chain is x within n terms of one argument.
func chain(n int, x api.Term) api.Term {
	for range n {
		x = comp("f", x)
	}
	return x
}

// lines is the text of events: the terms of each answer in brackets, and the end.
func lines(events []api.Event) string {
	ends := map[int]string{api.Done: "done", api.Fuel: "fuel", api.Large: "large", api.Fault: "fault", api.Enough: "enough"}
	var l []string
	for _, e := range events {
		var terms []string
		for _, t := range e.Terms {
			terms = append(terms, read.Print(t))
		}
		if e.Kind == api.Answer {
			l = append(l, "["+strings.Join(terms, " ")+"]")
		} else {
			l = append(l, ends[e.Kind]+strings.Join(terms, " "))
		}
	}
	return strings.Join(l, " ")
}

func equal(a, b []api.Event) bool {
	return slices.EqualFunc(a, b, func(x, y api.Event) bool {
		return x.Kind == y.Kind && slices.EqualFunc(x.Terms, y.Terms, term.Same)
	})
}

// Some goals have numbers that are multiples of these, or all, or only the first one, or none.
func common() []int { return []int{0, 1, 2, 3, 5, 8, 40, api.MaxFuel, math.MaxInt} }

// events returns what solve.All and, in each period, run.All find.
func events(t *testing.T, p []api.Clause, q []api.Term, vars, fuel int, periods []int) []api.Event {
	t.Helper()
	want, e := solve.All(p, q, vars, fuel)
	if e != api.OK {
		t.Fatalf("solve.All: %d", e)
	}
	for _, every := range periods {
		if l, e := run.All(p, q, vars, fuel, every); e != api.OK || !equal(l, want) {
			t.Errorf("%s (%d, %d): %s, %d; not %s", show(p, q), fuel, every, lines(l), e, lines(want))
		}
	}
	return want
}

// show is the text of a program and a query.
func show(p []api.Clause, q []api.Term) string {
	body := func(sign string, l []api.Term) string {
		for i, t := range l {
			sign += []string{", ", " "}[max(0, 1-i)] + read.Print(t)
		}
		return sign + ". "
	}
	s := ""
	for _, c := range p {
		s += read.Print(c.Head)
		if len(c.Body) == 0 {
			s += ". "
		} else {
			s += body(" :-", c.Body)
		}
	}
	return s + body("?-", q)
}

func parse(t *testing.T, program, query string) ([]api.Clause, []api.Term, int) {
	t.Helper()
	p, e := read.Program(program)
	q, vars, f := read.Query(query)
	if e != api.OK || f != api.OK {
		t.Fatalf("%q: %d, %q: %d", program, e, query, f)
	}
	return p, q, vars
}

type example struct {
	program, query string
	fuel           int
	want           string
}

func check(t *testing.T, l []example) {
	t.Helper()
	for _, c := range l {
		p, q, vars := parse(t, c.program, c.query)
		if got := lines(events(t, p, q, vars, c.fuel, common())); got != c.want {
			t.Errorf("%s ?- %s (%d): %s, not %s", c.program, c.query, c.fuel, got, c.want)
		}
	}
}

// P6.1
func TestErrors(t *testing.T) {
	a := atom("a")
	good := []api.Clause{{Head: a}}
	loop := make([]api.Term, 1)
	loop[0] = comp("f", loop...)
	for _, c := range []struct {
		name              string
		program           []api.Clause
		query             []api.Term
		vars, fuel, every int
		want              api.Errno
	}{
		{"nothing", nil, nil, 0, 0, 0, api.OK},
		{"most", slices.Repeat(good, api.MaxClauses), slices.Repeat([]api.Term{a}, api.MaxBody), api.MaxVars, api.MaxFuel, math.MaxInt, api.OK},
		{"too many clauses", slices.Repeat(good, api.MaxClauses+1), nil, 0, 0, 0, api.ErrForm},
		{"head is built in", []api.Clause{good[0], {Head: atom("true")}}, nil, 0, 0, 0, api.ErrForm},
		{"zero clause", []api.Clause{{}}, nil, 0, 0, 0, api.ErrForm},
		{"bad body", []api.Clause{{Head: a, Body: []api.Term{number(1)}}}, nil, 0, 0, 0, api.ErrForm},
		{"no such variable in a clause", []api.Clause{{Head: comp("f", variable(0))}}, nil, 1, 0, 0, api.ErrForm},
		{"no such variable in the query", good, []api.Term{comp("f", variable(1))}, 1, 1, 1, api.ErrForm},
		{"goal is a variable", good, []api.Term{variable(0)}, 1, 1, 1, api.ErrForm},
		{"too many goals", good, slices.Repeat([]api.Term{a}, api.MaxBody+1), 0, 1, 1, api.ErrForm},
		{"goal is too large", good, []api.Term{chain(api.MaxNodes, a)}, 0, 1, 1, api.ErrForm},
		{"bad name", good, []api.Term{atom("A")}, 0, 1, 1, api.ErrForm},
		{"negative variables", good, nil, -1, 1, 1, api.ErrForm},
		{"too many variables", good, nil, api.MaxVars + 1, 1, 1, api.ErrForm},
		{"most variables of all", good, nil, math.MaxInt, 1, 1, api.ErrForm},
		{"endless term", good, loop, 0, 1, 1, api.ErrForm},
		{"endless body", []api.Clause{{Head: a, Body: loop}}, nil, 0, 1, 1, api.ErrForm},
		{"negative fuel", good, nil, 0, -1, 1, api.ErrRange},
		{"least fuel", good, nil, 0, math.MinInt, 1, api.ErrRange},
		{"too much fuel", good, nil, 0, api.MaxFuel + 1, 1, api.ErrRange},
		{"most fuel of all", good, []api.Term{a}, 0, math.MaxInt, 1, api.ErrRange},
		{"negative period", good, nil, 0, 1, -1, api.ErrRange},
		{"least period", good, []api.Term{a}, 0, 1, math.MinInt, api.ErrRange},
		{"bad program, fuel and period", []api.Clause{{}}, nil, 0, -1, -1, api.ErrForm},
		{"bad program and period", []api.Clause{{}}, nil, 0, 1, -1, api.ErrForm},
		{"bad query and fuel", good, []api.Term{{}}, 0, api.MaxFuel + 1, 1, api.ErrForm},
		{"bad query and period", good, []api.Term{{}}, 0, 1, -1, api.ErrForm},
	} {
		l, e := run.All(c.program, c.query, c.vars, c.fuel, c.every)
		if e != c.want || (e == api.OK) != (len(l) > 0) {
			t.Errorf("%s: %+v, %d, not %d", c.name, l, e, c.want)
		}
		if e != api.OK && c.every >= 0 {
			if _, other := solve.All(c.program, c.query, c.vars, c.fuel); other != e {
				t.Errorf("%s: %d, but %d of solve.All", c.name, e, other)
			}
		}
	}
}

func TestExamplesOfTheDocument(t *testing.T) {
	check(t, []example{
		{"app(nil,X,X). app(cons(A,X),Y,cons(A,Z)) :- app(X,Y,Z).", "app(X,Y,cons(1,nil)).", 150, "[nil cons(1,nil)] [cons(1,nil) nil] done"},
		{"p(1). p(2). r(X) :- p(X), !.", "r(X).", 150, "[1] done"},
		{"nat(z). nat(s(X)) :- nat(X).", "nat(X).", 5, "[z] [s(z)] [s(s(z))] [s(s(s(z)))] [s(s(s(s(z))))] fuel"},
		{"eq(X). p.", "eq(X,f(X)).", 9, "done"},
	})
}

func TestQueryWithoutGoals(t *testing.T) {
	if got := lines(events(t, nil, nil, 0, 0, common())); got != "[] done" {
		t.Error(got)
	}
	if got := lines(events(t, nil, []api.Term{}, 3, 0, common())); got != "[A B C] done" {
		t.Error(got)
	}
}

func TestFuelAndFaults(t *testing.T) {
	check(t, []example{
		{"p.", "p.", 0, "fuel"},
		{"p.", "p.", 1, "[] done"},
		{"p.", "q.", 0, "fuel"},
		{"p.", "q.", 1, "fault"},
		{"p.", "p(a).", 1, "fault"},
		{"p(a).", "p.", 1, "fault"},
		{"p(a).", "p(a,a).", 1, "fault"},
		{"p(a).", "p(b).", 1, "done"},
		{"", "p.", 1, "fault"},
		{"eq(a). true(b). less(c). add(d,e).", "eq(W), true(X), less(Y), add(Z,e).", 9, "[a b c d] done"},
		{"p.", "fail(a).", 9, "fault"},
		{"p.", "!, true, eq(a,a), less(1,2), add(1,2,3).", 4, "fuel"},
		{"p.", "!, true, eq(a,a), less(1,2), add(1,2,3).", 5, "[] done"},
		{"p(1). p(2). p(3). p(4).", "p(X), p(Y).", 3, "[1 1] [1 2] [1 3] [1 4] [2 1] [2 2] [2 3] [2 4] fuel"},
		{"p(1) :- q. p(2).", "p(X).", 9, "fault"},
		{"p(1) :- q. p(2).", "p(2).", 9, "[] done"},
		{"p(X) :- p(X).", "p(X).", 150, "fuel"},
		{"n(0). n(X) :- less(0,X), add(X,-1,Y), n(Y).", "n(49).", 148, "[] fuel"},
		{"n(0). n(X) :- less(0,X), add(X,-1,Y), n(Y).", "n(49).", 149, "[] done"},
	})
}

func TestBacktracking(t *testing.T) {
	check(t, []example{
		{"p(c). p(a). q(z). p(b).", "p(X).", 9, "[c] [a] [b] done"},
		{"p(X) :- q(X). p(3). q(1). q(2).", "p(X).", 9, "[1] [2] [3] done"},
		{"p(1). p(2). q(3). q(4).", "p(X), q(Y), add(X,Y,6).", 9, "[2 4] done"},
		{"p(b,b,a). p(X,Y,Z).", "p(X,Y,c).", 9, "[A B] done"},
		{"p(1). p(2).", "p(X), eq(f(Y,X),f(b,2)).", 9, "[2 b] done"},
		{"p(1) :- eq(Y,1). p(X).", "p(X).", 9, "[1] [A] done"},
		{"p(X,Y) :- eq(X,1), eq(Y,2), fail. p(X,Y) :- eq(Y,3).", "p(X,Y).", 9, "[A 3] done"},
		{"p(1). p(X). p(2).", "p(X), p(Y).", 9, "[1 1] [1 A] [1 2] [A 1] [A B] [A 2] [2 1] [2 A] [2 2] done"},
		{"p(1) :- a. p(2) :- b. p(3). a. b. c.", "p(X), c, less(1,X), c.", 15, "[2] [3] done"},
		// A variable from before the choice point refers to cells from after it, until it is unbound again.
		{"p(f(X,g(X))). p(h(X)) :- q(X). q(k(X)). q(m(X,X)).", "p(A), true, true, eq(B,A).", 30, "[f(A,g(A)) f(A,g(A))] [h(k(A)) h(k(A))] [h(m(A,A)) h(m(A,A))] done"},
		// Variables that no goal contains are needed for the answer.
		{"p(1). p(2). q.", "p(X), eq(Y,f(X)), q, q, q.", 30, "[1 f(1)] [2 f(2)] done"},
		// Cells that only a choice point needs.
		{"p(X) :- q(g(f(X),Y)). q(g(X,X)) :- a, fail. q(g(X,Y)) :- a, a, fail. q(g(f(3),b)). a.", "p(X), a.", 30, "[3] done"},
		{"perm(nil,nil). perm(X,c(A,Y)) :- del(A,X,Z), perm(Z,Y). del(A,c(A,X),X). del(A,c(B,X),c(B,Y)) :- del(A,X,Y).", "perm(c(1,c(2,c(3,nil))),c(X,Y)).", 150,
			"[1 c(2,c(3,nil))] [1 c(3,c(2,nil))] [2 c(1,c(3,nil))] [2 c(3,c(1,nil))] [3 c(1,c(2,nil))] [3 c(2,c(1,nil))] done"},
	})
}

func TestFreshVariables(t *testing.T) {
	check(t, []example{
		{"p(X,Y).", "p(1,Z), p(Z,Y), p(2,2).", 9, "[A B] done"},
		{"p(X,X).", "p(Y,X), p(1,Z).", 9, "[A A 1] done"},
		{"p(f(Y,X)).", "p(X), p(Y).", 9, "[f(A,B) f(C,D)] done"},
		{"p(X,Y) :- q(Y,Z), q(X,Z). q(X,f(X)).", "p(A,B).", 9, "[A A] done"},
		{"p(X,f(Y)) :- q(Y). p(X,Y) :- q(X). q(Z).", "p(A,B).", 9, "[A f(B)] [A B] done"},
		{"r(nil,X,X). r(cons(A,X),Y,Z) :- r(X,cons(A,Y),Z).", "r(cons(P,cons(Q,cons(R,nil))),nil,X).", 9, "[A B C cons(C,cons(B,cons(A,nil)))] done"},
		{"p.", "eq(f(X,Y),f(Y,Z)).", 9, "[A A A] done"},
		{"p.", "eq(X,Y), eq(Y,Z), eq(f(Z,W),f(g(W),V)).", 9, "[g(A) g(A) g(A) A A] done"},
	})
}

func TestCut(t *testing.T) {
	const p = "p(1). p(2). p(3). "
	check(t, []example{
		{p, "p(X), !, p(Y).", 20, "[1 1] [1 2] [1 3] done"},
		{p, "!, p(X).", 20, "[1] [2] [3] done"},
		{p, "p(X), p(Y), !, p(Z).", 20, "[1 1 1] [1 1 2] [1 1 3] done"},
		{p + "r(X) :- p(X), !.", "p(Y), r(X).", 20, "[1 1] [2 1] [3 1] done"},
		{p + "r(X) :- p(X), !. r(4).", "r(X).", 20, "[1] done"},
		{p + "r(0). r(X) :- p(X), !. r(4).", "r(X).", 20, "[0] [1] done"},
		{p + "r(X) :- p(X), less(3,X), !. r(4).", "r(X).", 20, "[4] done"},
		{p + "r(X) :- s, p(X). s :- !. s.", "r(X).", 20, "[1] [2] [3] done"},
		{p + "r(X) :- p(X), s. r(4). s :- p(X), !. s.", "r(X).", 20, "[1] [2] [3] [4] done"},
		{p + "r(X,Y) :- p(X), s(Y), !. s(Y) :- p(Y), less(1,Y), !.", "r(X,Y).", 20, "[1 2] done"},
		{p + "r(X) :- p(X), s(X). s(X) :- less(X,2), !, fail. s(X).", "r(X).", 20, "[2] [3] done"},
		{"r(X) :- eq(X,1), !, fail. r(X).", "r(2), r(1).", 20, "done"},
		{"r(1) :- !. r(2).", "r(2).", 20, "[] done"},
		{p, "p(X), eq(Y,!), p(Z), less(X,2), !.", 20, "[1 ! 1] done"},
		{"p.", "!, !, fail.", 20, "done"},
	})
}

func TestArithmetic(t *testing.T) {
	check(t, []example{
		{"p.", "less(1,2).", 9, "[] done"},
		{"p.", "less(2,2).", 9, "done"},
		{"p.", "less(3,2).", 9, "done"},
		{"p.", "less(-1099511627776,1099511627776).", 9, "[] done"},
		{"p.", "less(X,1).", 9, "fault"},
		{"p.", "less(1,X).", 9, "fault"},
		{"p.", "less(a,1).", 9, "fault"},
		{"p.", "less(1,f(1)).", 9, "fault"},
		{"p.", "eq(X,Y), eq(Y,3), less(X,4), less(2,X).", 9, "[3 3] done"},
		{"p.", "add(2,3,X), less(X,6), add(X,-5,0).", 20, "[5] done"},
		{"p.", "add(2,3,6).", 9, "done"},
		{"p.", "add(2,3,a).", 9, "done"},
		{"p.", "add(2,3,f(X)).", 9, "done"},
		{"p.", "eq(X,Y), add(2,3,X).", 9, "[5 5] done"},
		{"p.", "eq(X,1), add(X,X,X).", 9, "done"},
		{"p.", "add(X,3,5).", 9, "fault"},
		{"p.", "add(2,X,5).", 9, "fault"},
		{"p.", "add(a,1,X).", 9, "fault"},
		{"p.", "add(1,f(1),X).", 9, "fault"},
		{"p.", "add(1099511627775,1,X).", 9, "[1099511627776] done"},
		{"p.", "add(1099511627776,1,X).", 9, "fault"},
		{"p.", "add(1,1099511627776,a).", 9, "fault"},
		{"p.", "add(-1099511627775,-1,X).", 9, "[-1099511627776] done"},
		{"p.", "add(-1099511627776,-1,X).", 9, "fault"},
		{"p(1). p(2). p(3).", "p(X), p(Y), add(X,Y,4).", 20, "[1 3] [2 2] [3 1] done"},
		{"fib(0,0,1). fib(N,A,B) :- less(0,N), add(N,-1,M), fib(M,X,A), add(X,A,B).", "fib(30,A,B).", 150, "[832040 1346269] done"},
		{"sum(nil,0). sum(c(X,Y),Z) :- sum(Y,W), add(X,W,Z).", "sum(c(1,c(2,c(3,nil))),X).", 20, "[6] done"},
	})
}

// The work of a unification is around its limit.
func TestWork(t *testing.T) {
	// D has 139 nodes and those of a chain, so that g(C,C,C,D) has 256 more.
	const program = "t(A,B,C) :- eq(A,f(a,a,a,a)), eq(B,f(A,A,A,A)), eq(C,f(B,B,B,B)). q(X). p :- t(A,B,C), eq(D,g(C,B,B,g(A,A,CHAIN))), "
	for _, c := range []struct {
		goal string
		work int // beside the nodes of g(C,C,C,D)
		want string
	}{
		{"eq(g(C,C,C,D),g(C,C,C,D))", 0, "[] done"},
		{"eq(X,g(C,C,C,D))", 1, "[] done"},
		{"eq(g(C,C,C,D),X)", 1, "[] done"},
		{"eq(h(X),h(g(C,C,C,D)))", 2, "[] done"},
		{"q(g(C,C,C,D))", 2, "[] done"},
		{"eq(X,g(C,C,C,g(D,X,D)))", 3, "done"},
	} {
		for nodes := 1; nodes <= 10; nodes++ {
			chained := read.Print(chain(nodes-1, atom("a")))
			want := c.want
			if 395+nodes+c.work > api.MaxWork {
				want = "large"
			}
			check(t, []example{{strings.Replace(program, "CHAIN", chained, 1) + c.goal + ".", "p.", 20, want}})
		}
	}
}

func TestLargestAnswers(t *testing.T) {
	const c = "eq(A,f(a,a,a,a)), eq(B,f(A,A,A,A)), eq(C,f(B,B,B,B)), " // 5 + 21 + 85 nodes
	const many = "p(a). p(b). p(C) :- eq(A,f(a,a,a,a)), eq(B,f(A,A,A,A)), eq(D,f(B,B,B,B)), eq(C,f(D,D,D,D)). p(c)."
	for _, x := range []example{
		{"p.", c + "eq(D,g(C,a,a,a)).", 9, "done"},
		{"p.", c + "eq(D,g(C,f(a),a,a)).", 9, "large"},
		{"p.", c + "eq(D,g(C,X,Y,a)).", 9, "large"},
		{"p :- " + c + "eq(D,f(C,C,C,C)).", "p.", 9, "[] done"},
		{many, "p(X).", 9, "[a] [b] large"},
	} {
		p, q, vars := parse(t, x.program, x.query)
		if got := lines(events(t, p, q, vars, x.fuel, common())); !strings.HasSuffix(got, x.want) {
			t.Errorf("%s ?- %s: %s, not %s", x.program, x.query, got, x.want)
		}
	}
	check(t, []example{{"d(X,f(X,X,X,X)).", "d(X,A), d(A,B), d(B,C), d(C,D).", 20, "large"}})
}

func TestEnough(t *testing.T) {
	program, answers := "", ""
	for n := 1; n <= api.MaxClauses; n++ {
		program += "p(" + strconv.Itoa(n) + "). "
		end := "enough"
		if n <= api.MaxAnswers {
			answers += "[" + strconv.Itoa(n) + "] "
		}
		if n < api.MaxAnswers {
			end = "done"
		}
		check(t, []example{{program, "p(X).", 1, answers + end}})
	}
}

// Clauses that are tried in vain leave nothing in the heap, which has no room for all of them.
func TestManyLargeClausesFail(t *testing.T) {
	p := func(x string) api.Term { return comp("p", chain(api.MaxNodes-2, atom(x))) }
	body := slices.Repeat([]api.Term{p("a")}, api.MaxBody)
	program := slices.Repeat([]api.Clause{{Head: p("b"), Body: body, Vars: api.MaxVars}}, api.MaxClauses-1)
	program = append(program, api.Clause{Head: p("a"), Body: body, Vars: api.MaxVars})
	if got := lines(events(t, program, body, api.MaxVars, 15, common())); got != "fuel" {
		t.Error(got)
	}
}

func TestLargestHeap(t *testing.T) {
	p := comp("p", chain(api.MaxNodes-2, variable(7)))
	body := slices.Repeat([]api.Term{p}, api.MaxBody)
	program := []api.Clause{{Head: p, Body: body, Vars: api.MaxVars}}
	if got := lines(events(t, program, body, api.MaxVars, api.MaxFuel, common())); got != "fuel" {
		t.Error(got)
	}
}

// spare puts terms behind the end of each list.
func spare(l []api.Term) []api.Term {
	out := slices.Clone(l)
	for i := range out {
		out[i].Args = spare(out[i].Args)
	}
	return append(out, atom("spare"), atom("spare"))[:len(l)]
}

// whole shows all lists up to their capacity.
func whole(l []api.Term) []api.Term {
	out := slices.Clone(l[:cap(l)])
	for i := range out {
		out[i].Args = whole(out[i].Args)
	}
	return out
}

func TestArgumentsStay(t *testing.T) {
	p, q, vars := parse(t, "app(nil,X,X). app(cons(A,X),Y,cons(A,Z)) :- app(X,Y,Z), true.", "app(X,Y,cons(1,cons(W,nil))), true.")
	q = spare(q)
	all := func() [][]api.Term {
		l := [][]api.Term{whole(q)}
		for _, c := range p[:cap(p)] {
			l = append(l, whole([]api.Term{c.Head}), whole(c.Body))
		}
		return l
	}
	for i := range p {
		p[i].Body = spare(p[i].Body)
		p[i].Head.Args = spare(p[i].Head.Args)
	}
	p = append(p, api.Clause{Head: atom("spare")})[:len(p)]
	before := all()
	for every := range 3 {
		run.All(p, q, vars, 150, every)
	}
	if !reflect.DeepEqual(all(), before) {
		t.Error("arguments are changed")
	}
}

func TestResultsAreNew(t *testing.T) {
	p, q, vars := parse(t, "p(f(a,g(b))). p(X).", "eq(X,h(1,k(2))), p(Y), eq(Z,f(X,X)), eq(W,X).")
	text := show(p, q)
	l, _ := run.All(p, q, vars, 9, 1)
	want := lines(l)
	seen := map[*api.Term]bool{}
	var visit func(l []api.Term)
	visit = func(l []api.Term) {
		for i := range l {
			if seen[&l[i]] {
				t.Errorf("%s: %s is shared", want, read.Print(l[i]))
			}
			seen[&l[i]] = true
			visit(l[i].Args)
			l[i].S = "other"
		}
	}
	for _, e := range l {
		visit(e.Terms)
	}
	if show(p, q) != text {
		t.Error("results share memory with arguments")
	}
	if again, _ := run.All(p, q, vars, 9, 1); lines(again) != want {
		t.Errorf("%s, not %s", lines(again), want)
	}
}
