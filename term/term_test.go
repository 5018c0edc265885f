package term_test

import (
	"math"
	"reflect"
	"runtime/debug"
	"strings"
	"testing"

	"querist/api"
	"querist/term"
)

func variable(n int) api.Term { return api.Term{Kind: api.Var, N: n} }

func atom(s string) api.Term { return api.Term{Kind: api.Atom, S: s} }

func number(n int) api.Term { return api.Term{Kind: api.Int, N: n} }

func comp(s string, args ...api.Term) api.Term {
	return api.Term{Kind: api.Comp, S: s, Args: args}
}

// chain nests t in n compound terms with one argument each.
func chain(t api.Term, n int) api.Term {
	for range n {
		t = comp("f", t)
	}
	return t
}

// times returns a list of n equal elements.
func times[T any](x T, n int) []T {
	l := make([]T, n)
	for i := range l {
		l[i] = x
	}
	return l
}

// P1.1
func TestNamed(t *testing.T) {
	for _, s := range []string{"a", "z", "m", "abcdefgh", "zzzzzzzz", "eq", "!"} {
		if !term.Named(s) {
			t.Errorf("Named(%q) is false", s)
		}
	}
	bad := []string{
		"", "abcdefghi", strings.Repeat("a", 1000), "A", "aB", "Ab", "a1", "1", "a b", " a", "a ", "_",
		"`", "{", "a`", "{a", "!!", "a!", "!a", "ä", "é", "a\x00", "\x00", "\xff", "-", ".",
	}
	for _, s := range bad {
		if term.Named(s) {
			t.Errorf("Named(%q) is true", s)
		}
	}
	for b := range 256 {
		s := string([]byte{byte(b)})
		if want := b >= 'a' && b <= 'z' || b == '!'; term.Named(s) != want {
			t.Errorf("Named(%q) is not %v", s, want)
		}
	}
}

// P1.2
func TestGoodAcceptsValidTerms(t *testing.T) {
	a := atom("a")
	for _, c := range []struct {
		t    api.Term
		vars int
	}{
		{variable(0), 1},
		{variable(2), 3},
		{variable(math.MaxInt - 1), math.MaxInt},
		{a, 0},
		{a, -1},
		{atom("!"), 0},
		{atom("abcdefgh"), math.MinInt},
		{api.Term{Kind: api.Atom, S: "a", Args: []api.Term{}}, 0},
		{number(0), 0},
		{number(api.MaxNumber), 0},
		{number(-api.MaxNumber), 0},
		{comp("f", a), 0},
		{comp("f", a, a, a, a), 0},
		{comp("abcdefgh", atom("!")), 0},
		{comp("f", variable(1), comp("g", number(-1), variable(0)), a), 2},
		{chain(a, 100), 0},
	} {
		if !term.Good(c.t, c.vars) {
			t.Errorf("Good(%+v, %d) is false", c.t, c.vars)
		}
	}
}

func TestGoodRejectsInvalidTerms(t *testing.T) {
	a := atom("a")
	one := []api.Term{a}
	bad := []struct {
		t    api.Term
		vars int
	}{
		{variable(-1), 3},
		{variable(3), 3},
		{variable(0), 0},
		{variable(0), -1},
		{variable(0), math.MinInt},
		{variable(math.MaxInt), math.MaxInt},
		{variable(math.MinInt), math.MaxInt},
		{api.Term{Kind: api.Var, S: "a"}, 3},
		{api.Term{Kind: api.Var, Args: one}, 3},
		{atom(""), 3},
		{atom("A"), 3},
		{atom("abcdefghi"), 3},
		{api.Term{Kind: api.Atom, S: "a", N: 1}, 3},
		{api.Term{Kind: api.Atom, S: "a", N: -1}, 3},
		{api.Term{Kind: api.Atom, S: "a", Args: one}, 3},
		{number(api.MaxNumber + 1), 3},
		{number(-api.MaxNumber - 1), 3},
		{number(math.MaxInt), 3},
		{number(math.MinInt), 3},
		{api.Term{Kind: api.Int, S: "a"}, 3},
		{api.Term{Kind: api.Int, Args: one}, 3},
		{comp("f"), 3},
		{api.Term{Kind: api.Comp, S: "f", Args: []api.Term{}}, 3},
		{comp("f", a, a, a, a, a), 3},
		{comp("", a), 3},
		{comp("F", a), 3},
		{comp("!", a), 3},
		{comp("abcdefghi", a), 3},
		{api.Term{Kind: api.Comp, S: "f", N: 1, Args: one}, 3},
		{api.Term{Kind: 4, S: "a"}, 3},
		{api.Term{Kind: -1}, 3},
		{api.Term{Kind: math.MinInt}, 3},
	}
	for _, c := range bad {
		if term.Good(c.t, c.vars) {
			t.Errorf("Good(%+v, %d) is true", c.t, c.vars)
		}
		if x := comp("f", a, comp("g", a, c.t), a); term.Good(x, c.vars) {
			t.Errorf("Good(%+v, %d) is true", x, c.vars)
		}
	}
}

// P1.3
func TestNodes(t *testing.T) {
	a := atom("a")
	for _, c := range []struct {
		t    api.Term
		want int
	}{
		{variable(0), 1},
		{a, 1},
		{number(7), 1},
		{api.Term{Kind: 9, N: 9}, 1},
		{comp("f"), 1},
		{comp("f", a, a), 3},
		{comp("f", comp("g", a, variable(0)), a, comp("g", chain(a, 3))), 10},
		{api.Term{Kind: api.Atom, S: "a", Args: []api.Term{a, {Kind: api.Var, Args: []api.Term{a}}}}, 4},
		{comp("f", times(a, 1000)...), 1001},
	} {
		if got := term.Nodes(c.t); got != c.want {
			t.Errorf("Nodes(%+v) = %d, not %d", c.t, got, c.want)
		}
	}
}

func TestGoal(t *testing.T) {
	for _, x := range []api.Term{atom("a"), atom("!"), atom(""), comp("f", atom("a")), comp("f"), comp("!")} {
		if !term.Goal(x) {
			t.Errorf("Goal(%+v) is false", x)
		}
	}
	for _, x := range []api.Term{variable(0), number(1), {Kind: api.Var, S: "a"}, {Kind: api.Int, S: "a"}, {Kind: 4, S: "a"}, {Kind: -1}} {
		if term.Goal(x) {
			t.Errorf("Goal(%+v) is true", x)
		}
	}
}

// P1.4
func TestBuiltin(t *testing.T) {
	want := map[string]int{"!": 0, "true": 0, "fail": 0, "eq": 2, "less": 2, "add": 3}
	for _, s := range []string{"!", "true", "fail", "eq", "less", "add", "", "a", "tru", "truee", "Eq", "adds"} {
		for n := range 6 {
			args, builtin := want[s]
			builtin = builtin && n == args
			// The Kind is not mentioned by the promise.
			for kind := -1; kind <= 4; kind++ {
				x := api.Term{Kind: kind, S: s, Args: times(atom("a"), n)}
				if term.Builtin(x) != builtin {
					t.Errorf("Builtin(%+v) is not %v", x, builtin)
				}
			}
		}
	}
}

// P1.5
func TestGoodQuery(t *testing.T) {
	a := atom("a")
	wide := comp("f", comp("f", a, a, a, a), comp("f", a, a, a, a), comp("f", a, a, a, a), comp("f", a, a, a, a))
	full := comp("g", wide, a, a) // 24 nodes
	for _, c := range []struct {
		name string
		l    []api.Term
		vars int
		want bool
	}{
		{"nil", nil, 0, true},
		{"empty", []api.Term{}, api.MaxVars, true},
		{"too many variables", nil, api.MaxVars + 1, false},
		{"most variables", nil, math.MaxInt, false},
		{"negative variables", nil, -1, false},
		{"least variables", nil, math.MinInt, false},
		{"all goals", times(a, api.MaxBody), 0, true},
		{"too many goals", times(a, api.MaxBody+1), 0, false},
		{"built-in goals", []api.Term{atom("!"), atom("true"), comp("eq", a, variable(0))}, 1, true},
		{"last variable", []api.Term{comp("f", variable(7))}, 8, true},
		{"no such variable", []api.Term{a, comp("f", variable(1))}, 1, false},
		{"goal is a variable", []api.Term{variable(0)}, 1, false},
		{"goal is a number", []api.Term{a, number(1)}, 1, false},
		{"goal of an unknown kind", []api.Term{{Kind: 4, S: "a"}}, 1, false},
		{"deepest goal", []api.Term{chain(a, api.MaxNodes-1)}, 0, true},
		{"too deep", []api.Term{chain(a, api.MaxNodes)}, 0, false},
		{"largest goals", []api.Term{full, full, full, full, full}, 0, true},
		{"too large", []api.Term{a, comp("g", wide, a, a, a)}, 0, false},
		{"last goal is not valid", []api.Term{a, a, a, a, atom("A")}, 0, false},
	} {
		if term.GoodQuery(c.l, c.vars) != c.want {
			t.Errorf("%s: not %v", c.name, c.want)
		}
	}
}

func TestGoodClause(t *testing.T) {
	a := atom("a")
	f := comp("f", variable(0))
	for _, c := range []struct {
		name string
		c    api.Clause
		want bool
	}{
		{"fact", api.Clause{Head: a}, true},
		{"unused variables", api.Clause{Head: a, Vars: api.MaxVars}, true},
		{"rule", api.Clause{Head: f, Body: []api.Term{comp("g", variable(1), variable(0)), atom("!")}, Vars: 2}, true},
		{"longest body", api.Clause{Head: a, Body: times(a, api.MaxBody)}, true},
		{"body too long", api.Clause{Head: a, Body: times(a, api.MaxBody+1)}, false},
		{"too many variables", api.Clause{Head: a, Vars: api.MaxVars + 1}, false},
		{"negative variables", api.Clause{Head: a, Vars: -1}, false},
		{"zero value", api.Clause{}, false},
		{"head is a variable", api.Clause{Head: variable(0), Vars: 1}, false},
		{"head is a number", api.Clause{Head: number(0)}, false},
		{"no such variable in the head", api.Clause{Head: f}, false},
		{"no such variable in the body", api.Clause{Head: f, Body: []api.Term{comp("f", variable(1))}, Vars: 1}, false},
		{"body is a variable", api.Clause{Head: f, Body: []api.Term{variable(0)}, Vars: 1}, false},
		{"head is not valid", api.Clause{Head: comp("f")}, false},
		{"deepest head", api.Clause{Head: chain(a, api.MaxNodes-1)}, true},
		{"head too deep", api.Clause{Head: chain(a, api.MaxNodes)}, false},
		{"body too deep", api.Clause{Head: a, Body: []api.Term{chain(a, api.MaxNodes)}}, false},
		{"head is !", api.Clause{Head: atom("!")}, false},
		{"head is true", api.Clause{Head: atom("true")}, false},
		{"head is fail", api.Clause{Head: atom("fail")}, false},
		{"head is eq", api.Clause{Head: comp("eq", a, a)}, false},
		{"head is less", api.Clause{Head: comp("less", a, a)}, false},
		{"head is add", api.Clause{Head: comp("add", a, a, a)}, false},
		{"eq of another length", api.Clause{Head: comp("eq", a)}, true},
		{"true with an argument", api.Clause{Head: comp("true", a)}, true},
		{"add of another length", api.Clause{Head: comp("add", a, a)}, true},
	} {
		if term.GoodClause(c.c) != c.want {
			t.Errorf("%s: not %v", c.name, c.want)
		}
	}
}

func TestGoodProgram(t *testing.T) {
	c := api.Clause{Head: atom("a")}
	for n := range api.MaxClauses + 1 {
		if !term.GoodProgram(times(c, n)) {
			t.Errorf("%d clauses are not valid", n)
		}
		if n == 0 {
			continue
		}
		for i := range n {
			l := times(c, n)
			l[i].Head = atom("!")
			if term.GoodProgram(l) {
				t.Errorf("%d clauses are valid with a bad clause %d", n, i)
			}
		}
	}
	if !term.GoodProgram(nil) || term.GoodProgram(times(c, api.MaxClauses+1)) || term.GoodProgram(times(c, 1000)) {
		t.Error("number of clauses")
	}
}

// A list that contains itself has no end, but the limits do.
func TestLimitsEndEndlessTerms(t *testing.T) {
	loop := make([]api.Term, 2)
	loop[0], loop[1] = comp("f", loop...), comp("f", loop...)
	if term.GoodQuery(loop, 0) || term.GoodClause(api.Clause{Head: loop[0]}) || term.GoodProgram([]api.Clause{{Head: atom("a"), Body: loop}}) {
		t.Error("an endless term is valid")
	}
}

// P1.6
func TestSame(t *testing.T) {
	a := atom("a")
	l := []api.Term{
		variable(0), variable(1), variable(-1), a, atom("b"), atom(""), number(0), number(1),
		comp("f", a), comp("g", a), comp("f", atom("b")), comp("f", a, a), comp("f", a, atom("b")), comp("f", atom("b"), a),
		comp("f", comp("f", a)), comp("f", comp("f", a), a), comp("f", comp("f", a, a)), comp("f", comp("f"), a, a), comp("f"),
		{Kind: api.Comp, S: "f", N: 1, Args: []api.Term{a}}, {Kind: api.Var, S: "a"}, {Kind: api.Var, Args: []api.Term{a}},
		{Kind: 4}, {Kind: -1}, {Kind: api.Atom, S: "a", Args: []api.Term{a}}, {Kind: api.Atom, S: "a", N: 1},
	}
	for i, x := range l {
		for j, y := range l {
			if term.Same(x, y) != (i == j) {
				t.Errorf("Same(%+v, %+v) is %v", x, y, i != j)
			}
		}
	}
	empty := a
	empty.Args = []api.Term{}
	if !term.Same(a, empty) || !term.Same(empty, a) {
		t.Error("an empty list differs from nil")
	}
	if !term.Same(chain(a, 100), chain(atom("a"), 100)) || term.Same(chain(a, 100), chain(a, 99)) || term.Same(chain(a, 100), chain(atom("b"), 100)) {
		t.Error("chains")
	}
}

func TestShiftNumbers(t *testing.T) {
	const m = 1 << 40
	for _, c := range []struct{ v, n, want int }{
		{0, 0, 0},
		{2, 5, 7},
		{m - 1, 0, m - 1},
		{m, 0, 0},
		{m + 3, 4, 7},
		{3, m, 3},
		{3, 5*m + 4, 7},
		{m - 1, m - 1, 2*m - 2},
		{m - 1, 1, m},
		{-1, 0, m - 1},
		{0, -1, m - 1},
		{-1, -1, 2*m - 2},
		{-m, -m, 0},
		{-m - 1, 1, m},
		{5, -5, m},
		{math.MaxInt, 0, m - 1},
		{0, math.MaxInt, m - 1},
		{math.MaxInt, math.MaxInt, 2*m - 2},
		{math.MinInt, math.MinInt, 0},
		{math.MinInt + 1, math.MinInt + 2, 3},
	} {
		if got := term.Shift(variable(c.v), c.n); !reflect.DeepEqual(got, variable(c.want)) {
			t.Errorf("Shift(%d, %d) = %+v, not %d", c.v, c.n, got, c.want)
		}
	}
}

func TestShiftTerms(t *testing.T) {
	x := comp("f", variable(2), number(2), comp("g", variable(0), atom("a"), variable(2)), api.Term{Kind: 4, N: 2})
	want := comp("f", variable(7), number(2), comp("g", variable(5), atom("a"), variable(7)), api.Term{Kind: 4, N: 2})
	if got := term.Shift(x, 5); !reflect.DeepEqual(got, want) {
		t.Errorf("%+v", got)
	}
	bad := api.Term{Kind: api.Var, N: 1, S: "s", Args: []api.Term{variable(2), {Kind: api.Int, N: 3, Args: []api.Term{variable(3)}}}}
	moved := api.Term{Kind: api.Var, N: 2, S: "s", Args: []api.Term{variable(3), {Kind: api.Int, N: 3, Args: []api.Term{variable(4)}}}}
	if got := term.Shift(bad, 1); !reflect.DeepEqual(got, moved) {
		t.Errorf("%+v", got)
	}
}

func TestTidy(t *testing.T) {
	a := atom("a")
	for _, c := range []struct{ l, want []api.Term }{
		{
			[]api.Term{comp("f", variable(7), variable(3)), variable(7)},
			[]api.Term{comp("f", variable(0), variable(1)), variable(0)},
		},
		{
			[]api.Term{variable(-4), variable(math.MaxInt), variable(math.MinInt), variable(-4), variable(0)},
			[]api.Term{variable(0), variable(1), variable(2), variable(0), variable(3)},
		},
		{
			[]api.Term{variable(1), variable(0)},
			[]api.Term{variable(0), variable(1)},
		},
		{
			[]api.Term{comp("f", comp("g", variable(9), number(9)), variable(8)), a, comp("f", comp("f", variable(6)), variable(9), variable(8))},
			[]api.Term{comp("f", comp("g", variable(0), number(9)), variable(1)), a, comp("f", comp("f", variable(2)), variable(0), variable(1))},
		},
		{
			[]api.Term{{Kind: api.Var, N: 5, S: "s", Args: []api.Term{variable(4), variable(5)}}, {Kind: 4, N: 5, Args: []api.Term{variable(4)}}},
			[]api.Term{{Kind: api.Var, N: 0, S: "s", Args: []api.Term{variable(1), variable(0)}}, {Kind: 4, N: 5, Args: []api.Term{variable(1)}}},
		},
	} {
		if got := term.Tidy(c.l); !reflect.DeepEqual(got, c.want) {
			t.Errorf("Tidy(%+v) = %+v", c.l, got)
		}
	}
	if len(term.Tidy(nil)) != 0 || len(term.Tidy([]api.Term{})) != 0 {
		t.Error("Tidy of no terms")
	}
}

func TestTidyManyVariables(t *testing.T) {
	const n = 1 << 18
	l := make([]api.Term, 2*n)
	for i := range n {
		l[i] = variable(-3 * i)
		l[2*n-1-i] = variable(-3 * i)
	}
	for i, x := range term.Tidy(l) {
		if want := min(i, 2*n-1-i); x.N != want {
			t.Fatalf("variable %d has the number %d, not %d", i, x.N, want)
		}
	}
}

// Arguments stay as they are, with their spare capacity, and results have memory of their own.
func TestArgumentsAreNotModified(t *testing.T) {
	build := func() []api.Term {
		inner := append(make([]api.Term, 0, 4), variable(7), variable(3), variable(70))[:2]
		l := append(make([]api.Term, 0, 4), comp("f", inner...), comp("g", inner...), variable(9), variable(90))
		return l[:3]
	}
	l := build()
	tidy := term.Tidy(l)
	shifted := term.Shift(l[0], 5)
	for _, x := range [][]api.Term{tidy[0].Args, tidy[1].Args, shifted.Args, tidy} {
		x = x[:cap(x)]
		for i := range x {
			x[i] = atom("x")
		}
	}
	whole := func(l []api.Term) []api.Term { return append(l[:cap(l):cap(l)], l[0].Args[:4]...) }
	if !reflect.DeepEqual(whole(l), whole(build())) {
		t.Errorf("%+v", whole(l))
	}
	again := term.Tidy(build())
	again[0].Args[0] = atom("x")
	if !term.Same(again[1], comp("g", variable(0), variable(1))) {
		t.Error("two lists of one result share memory")
	}
}

// A term may be deeper than the call stack allows: the lower limit here stands for still deeper terms.
func TestDeepTerms(t *testing.T) {
	defer debug.SetMaxStack(debug.SetMaxStack(1 << 24))
	const depth = 1 << 20
	for _, nest := range []func(api.Term) api.Term{
		func(x api.Term) api.Term { return comp("f", x) },
		func(x api.Term) api.Term { return comp("f", x, variable(1)) },
	} {
		x, y := variable(1), variable(2)
		for range depth {
			x, y = nest(x), nest(y)
		}
		if !term.Good(x, 2) || term.Good(y, 2) || term.GoodQuery([]api.Term{x}, 2) {
			t.Error("Good")
		}
		if n := term.Nodes(x); n != 1+depth*len(x.Args) {
			t.Errorf("Nodes: %d", n)
		}
		if !term.Same(x, x) || term.Same(x, y) {
			t.Error("Same")
		}
		if s := term.Shift(x, 1); term.Good(s, 2) || !term.Good(s, 3) {
			t.Error("Shift")
		}
		if l := term.Tidy([]api.Term{x}); !term.Good(l[0], 1) {
			t.Error("Tidy")
		}
	}
}
