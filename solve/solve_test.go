package solve_test

import (
	"math"
	"reflect"
	"slices"
	"strings"
	"testing"

	"querist/api"
	"querist/read"
	"querist/solve"
)

func variable(n int) api.Term { return api.Term{Kind: api.Var, N: n} }

func atom(s string) api.Term { return api.Term{Kind: api.Atom, S: s} }

func number(n int) api.Term { return api.Term{Kind: api.Int, N: n} }

func comp(s string, args ...api.Term) api.Term {
	return api.Term{Kind: api.Comp, S: s, Args: args}
}

// lines is the text of events: the terms of each answer in brackets, and the end.
func lines(events []api.Event) string {
	var l []string
	for _, e := range events {
		s := []string{"?", "", "done", "fuel", "large", "fault", "enough"}[e.Kind]
		if e.Kind == api.Answer {
			var terms []string
			for _, t := range e.Terms {
				terms = append(terms, read.Print(t))
			}
			s = "[" + strings.Join(terms, " ") + "]"
		} else if len(e.Terms) > 0 {
			s += " with terms"
		}
		l = append(l, s)
	}
	return strings.Join(l, " ")
}

// parse reads a program and a query, which has no goals if its text is empty.
func parse(t *testing.T, program, query string) ([]api.Clause, []api.Term, int) {
	t.Helper()
	p, e := read.Program(program)
	if e != api.OK {
		t.Fatalf("Program(%q): %d", program, e)
	}
	if query == "" {
		return p, nil, 0
	}
	q, vars, e := read.Query(query)
	if e != api.OK {
		t.Fatalf("Query(%q): %d", query, e)
	}
	return p, q, vars
}

type example struct {
	program, query string
	fuel           int
	want           string
}

func check(t *testing.T, l []example) {
	t.Helper()
	for _, c := range l {
		p, q, vars := parse(t, c.program, c.query)
		events, e := solve.All(p, q, vars, c.fuel)
		if got := lines(events); e != api.OK || got != c.want {
			t.Errorf("%s ?- %s (%d): %s, %d; not %s", c.program, c.query, c.fuel, got, e, c.want)
		}
	}
}

// P3.1
func TestErrors(t *testing.T) {
	a := atom("a")
	good := []api.Clause{{Head: a}}
	loop := make([]api.Term, 1)
	loop[0] = comp("f", loop...)
	for _, c := range []struct {
		name       string
		program    []api.Clause
		query      []api.Term
		vars, fuel int
		want       api.Errno
	}{
		{"nothing", nil, nil, 0, 0, api.OK},
		{"most", slices.Repeat(good, api.MaxClauses), slices.Repeat([]api.Term{a}, api.MaxBody), api.MaxVars, api.MaxFuel, api.OK},
		{"too many clauses", slices.Repeat(good, api.MaxClauses+1), nil, 0, 0, api.ErrForm},
		{"head is built in", []api.Clause{good[0], {Head: atom("true")}}, nil, 0, 0, api.ErrForm},
		{"head is a variable", []api.Clause{{Head: variable(0), Vars: 1}}, nil, 1, 0, api.ErrForm},
		{"bad body", []api.Clause{{Head: a, Body: []api.Term{number(1)}}}, nil, 0, 0, api.ErrForm},
		{"no such variable in a clause", []api.Clause{{Head: comp("f", variable(0))}}, nil, 1, 0, api.ErrForm},
		{"no such variable in the query", good, []api.Term{comp("f", variable(1))}, 1, 1, api.ErrForm},
		{"too many goals", good, slices.Repeat([]api.Term{a}, api.MaxBody+1), 0, 1, api.ErrForm},
		{"goal is a variable", good, []api.Term{variable(0)}, 1, 1, api.ErrForm},
		{"goal is a number", good, []api.Term{number(0)}, 0, 1, api.ErrForm},
		{"bad name", good, []api.Term{atom("A")}, 0, 1, api.ErrForm},
		{"negative variables", good, nil, -1, 1, api.ErrForm},
		{"too many variables", good, nil, api.MaxVars + 1, 1, api.ErrForm},
		{"most variables of all", good, nil, math.MaxInt, 1, api.ErrForm},
		{"endless term", good, loop, 0, 1, api.ErrForm},
		{"endless body", []api.Clause{{Head: a, Body: loop}}, nil, 0, 1, api.ErrForm},
		{"negative fuel", good, nil, 0, -1, api.ErrRange},
		{"least fuel", good, nil, 0, math.MinInt, api.ErrRange},
		{"too much fuel", good, nil, 0, api.MaxFuel + 1, api.ErrRange},
		{"most fuel", good, []api.Term{a}, 0, math.MaxInt, api.ErrRange},
		{"bad program and fuel", []api.Clause{{}}, nil, 0, -1, api.ErrForm},
		{"bad query and fuel", good, []api.Term{{}}, 0, api.MaxFuel + 1, api.ErrForm},
	} {
		events, e := solve.All(c.program, c.query, c.vars, c.fuel)
		if e != c.want || (e == api.OK) != (len(events) > 0) {
			t.Errorf("%s: %+v, %d, not %d", c.name, events, e, c.want)
		}
	}
}

func TestEventsEndOnce(t *testing.T) {
	check(t, []example{
		{"p.", "", 0, "[] done"},
		{"", "", 150, "[] done"},
		{"p(1). p(2).", "p(X).", 1, "[1] [2] done"},
		{"app(nil,X,X). app(cons(A,X),Y,cons(A,Z)) :- app(X,Y,Z).", "app(X,Y,cons(1,nil)).", 150, "[nil cons(1,nil)] [cons(1,nil) nil] done"},
	})
	events, e := solve.All(nil, nil, 3, 0)
	want := []api.Event{{Kind: api.Answer, Terms: []api.Term{variable(0), variable(1), variable(2)}}, {Kind: api.Done}}
	if e != api.OK || !reflect.DeepEqual(events, want) {
		t.Errorf("%+v, %d", events, e)
	}
}

// P3.2
func TestUnification(t *testing.T) {
	for _, c := range []struct{ a, b, want string }{
		{"a", "a", "[] done"},
		{"a", "b", "done"},
		{"a", "1", "done"},
		{"0", "0", "[] done"},
		{"1", "-1", "done"},
		{"f(a)", "f(a)", "[] done"},
		{"f(a)", "f(b)", "done"},
		{"f(a)", "g(a)", "done"},
		{"f(a)", "f(a,a)", "done"},
		{"f(a,a)", "f(a)", "done"},
		{"f", "f(a)", "done"},
		{"f(a,b,c,d)", "f(a,b,c,e)", "done"},
		{"f(g(h(1)))", "f(g(h(1)))", "[] done"},
		{"f(g(h(1)))", "f(g(h(2)))", "done"},
		{"!", "!", "[] done"},
		{"X", "X", "[A] done"},
		{"X", "Y", "[A A] done"},
		{"X", "a", "[a] done"},
		{"X", "-7", "[-7] done"},
		{"X", "f(Y,Z)", "[f(A,B) A B] done"},
		{"X", "f(X)", "done"},
		{"X", "f(a,g(b,X))", "done"},
		{"f(X,Y)", "f(Y,Z)", "[A A A] done"},
		{"f(X,Y)", "f(Y,X)", "[A A] done"},
		{"f(X,Y,X)", "f(Y,X,a)", "[a a] done"},
		{"f(X,b)", "f(a,Y)", "[a b] done"},
		{"f(X,X)", "f(a,b)", "done"},
		{"f(X,X)", "f(a,a)", "[a] done"},
		{"f(X,X)", "f(Y,g(Y))", "done"},
		{"f(X,g(X))", "f(g(Y),Y)", "done"},
		{"f(X,Y)", "f(g(Y),h(X))", "done"},
		{"f(X,Y,Z)", "f(g(Y),h(Z),a)", "[g(h(a)) h(a) a] done"},
		{"f(X,X,Y)", "f(g(Z),g(a),Z)", "[g(a) a a] done"},
	} {
		check(t, []example{{"p.", "eq(" + c.a + "," + c.b + ").", 9, c.want}})
		// The variables have other numbers then, so that only the end and the number of answers are compared.
		p, q, vars := parse(t, "p.", "eq("+c.b+","+c.a+").")
		events, _ := solve.All(p, q, vars, 9)
		if got := lines(events); strings.Count(got, "[") != strings.Count(c.want, "[") || !strings.HasSuffix(got, "done") {
			t.Errorf("eq(%s,%s): %s", c.b, c.a, got)
		}
	}
	check(t, []example{
		{"p.", "eq(X,Y), eq(Y,Z), eq(Z,X), eq(Y,a).", 9, "[a a a] done"},
		{"p.", "eq(X,f(Y)), eq(Y,g(X)).", 9, "done"},
		{"p.", "eq(X,Y), eq(X,f(Y)).", 9, "done"},
		{"p.", "eq(X,Y), eq(X,a), eq(Y,b).", 9, "done"},
		{"p.", "eq(X,f(Y)), eq(Z,f(a)), eq(X,Z).", 9, "[f(a) a f(a)] done"},
	})
}

// tower makes trees of four arguments each: A has 5 nodes, B 21, D 341.
const tower = "t(X,A,B,D) :- eq(A,f(X,X,X,X)), eq(B,f(A,A,A,A)), eq(C,f(B,B,B,B)), eq(D,f(C,C,C,C)). "

func TestWork(t *testing.T) {
	for _, c := range []struct{ name, clauses, want string }{
		{"400 pairs", "p :- t(a,A,B,D), eq(g(D,B,B,f(A,A,A)),g(D,B,B,f(A,A,A))).", "[] done"},
		{"401 pairs", "p :- t(a,A,B,D), eq(g(D,B,B,f(A,A,A,a)),g(D,B,B,f(A,A,A,a))).", "large"},
		{"each unification for itself", "p :- t(a,A,B,D), eq(D,D), eq(D,D), eq(D,D), q. q :- t(a,A,B,D), eq(D,D).", "[] done"},
		{"pair 400 differs", "p :- t(a,A,B,D), eq(E,f(a,a,a,b)), eq(g(D,B,B,f(A,A,A)),g(D,B,B,f(A,A,E))).", "done"},
		{"pair 401 differs", "p :- t(a,A,B,D), eq(g(D,B,B,f(A,A,A,a)),g(D,B,B,f(A,A,A,b))).", "large"},
		{"first pair differs", "p :- t(a,A,B,D), eq(f(D,D,D,D),g(D,D,D,D)).", "done"},
		{"second pair differs", "p :- t(a,A,B,D), eq(f(a,D,D,D),f(b,D,D,D)).", "done"},
		{"third pair differs", "p :- t(a,A,B,D), eq(f(D,a,D,D),f(D,b,D,D)).", "done"},
		{"differs too late", "p :- t(a,A,B,D), eq(f(D,D,a),f(D,D,b)).", "large"},
		{"variables: 400 pairs", "p :- t(X,A,B,D), t(Y,E,F,G), eq(g(D,B,B,f(A,A,A)),g(G,F,F,f(E,E,E))).", "[] done"},
		{"variables: 401 pairs", "p :- t(X,A,B,D), t(Y,E,F,G), eq(g(D,B,B,f(A,A,A,X)),g(G,F,F,f(E,E,E,Y))).", "large"},
		{"same variable: 400 pairs", "p :- t(X,A,B,D), eq(g(D,B,B,f(A,A,A)),g(D,B,B,f(A,A,A))).", "[] done"},
		{"same variable: 401 pairs", "p :- t(X,A,B,D), eq(g(D,B,B,f(A,A,A,X)),g(D,B,B,f(A,A,A,X))).", "large"},
		{"399 pairs and a visit", "p :- t(X,A,B,D), t(a,E,F,G), eq(g(D,B,B,f(A,A,f(X),f(X))),g(G,F,F,f(E,E,f(a),f(a)))).", "[] done"},
		{"400 pairs and a visit", "p :- t(X,A,B,D), t(a,E,F,G), eq(g(D,B,B,f(A,A,A)),g(G,F,F,f(E,E,E))).", "large"},
		{"the same, turned", "p :- t(X,A,B,D), t(a,E,F,G), eq(g(G,F,F,f(E,E,E)),g(D,B,B,f(A,A,A))).", "large"},
		{"399 visits", "p :- t(a,A,B,D), eq(X,g(D,B,B,f(A,A,f(a),f(a)))).", "[] done"},
		{"400 visits", "p :- t(a,A,B,D), eq(X,g(D,B,B,f(A,A,A))).", "large"},
		{"400 visits, turned", "p :- t(a,A,B,D), eq(g(D,B,B,f(A,A,A)),X).", "large"},
		{"visits of another variable", "p :- t(Y,A,B,D), eq(X,g(D,B,B,f(A,A,f(a),f(a)))).", "[] done"},
		{"too many visits of another variable", "p :- t(Y,A,B,D), eq(X,g(D,B,B,f(A,A,A))).", "large"},
		{"occurs at visit 399", "p :- t(a,A,B,D), eq(X,g(D,B,B,f(A,A,f(a),f(X)))).", "done"},
		{"occurs at visit 400", "p :- t(a,A,B,D), eq(X,g(D,B,B,f(A,A,f(a,a),f(X)))).", "large"},
		{"occurs at once", "p :- t(a,A,B,D), eq(X,f(X,D,D,D)).", "done"},
		{"occurs after a tower", "p :- t(a,A,B,D), eq(X,f(D,X,D,D)).", "done"},
		{"occurs too late", "p :- t(a,A,B,D), eq(X,f(D,D,X)).", "large"},
		{"fails before the rest", "p :- t(a,A,B,D), eq(f(X,D,D),f(g(X),D,D)).", "done"},
	} {
		t.Run(c.name, func(t *testing.T) { check(t, []example{{tower + c.clauses, "p.", 150, c.want}}) })
	}
}

func TestWorkOfHeads(t *testing.T) {
	// Three terms of 85 nodes: 1, 86 and 85 for the first two arguments, 257 for the third one.
	const q = "c(C) :- eq(A,f(a,a,a,a)), eq(B,f(A,A,A,A)), eq(C,f(B,B,B,B)). q(X,Y,Z). q(X,X,g(X,X,X))."
	check(t, []example{
		{q + " p :- c(C), q(C,C,Z).", "p.", 150, "[] large"},
		{q + " p :- c(C), q(C,C,Z), !.", "p.", 150, "[] done"},
		{q + " p :- c(C), q(C,b,Z).", "p.", 150, "[] done"},
		{tower + "q(X). p :- t(a,A,B,D), q(g(D,B,B,f(A,A,f(a),a))).", "p.", 150, "[] done"},
		{tower + "q(X). p :- t(a,A,B,D), q(g(D,B,B,f(A,A,f(a),f(a)))).", "p.", 150, "large"},
		{"d(X,f(X,X,X,X)).", "d(X,A), d(A,B), d(B,C), d(C,D).", 20, "large"},
		{"p(1). p(2) :- q(C). q(C) :- eq(A,f(a,a,a,a)), eq(B,f(A,A,A,A)), eq(C,f(B,B,B,B)), eq(D,f(C,C,C,C)), eq(E,g(D,D)). p(3).", "p(X).", 20, "[1] large"},
	})
}

// P3.3
func TestGoalsInOrder(t *testing.T) {
	check(t, []example{
		{"p(1). p(2). q(2). q(3).", "p(X), q(X).", 9, "[2] done"},
		{"p(1). p(2). q(a). q(b).", "p(X), q(Y).", 9, "[1 a] [1 b] [2 a] [2 b] done"},
		{"p.", "fail, q.", 9, "done"},
		{"p.", "q, fail.", 9, "fault"},
		{"p.", "less(X,2), eq(X,1).", 9, "fault"},
		{"p.", "eq(X,1), less(X,2).", 9, "[1] done"},
		{"p(X) :- eq(X,1), less(X,2).", "p(X), add(X,X,Y).", 9, "[1 2] done"},
		{"p(X) :- r(Y), add(Y,1,X). r(1).", "p(X), p(Y).", 9, "[2 2] done"},
	})
}

func TestFuel(t *testing.T) {
	check(t, []example{
		{"p.", "p.", 0, "fuel"},
		{"p.", "p.", 1, "[] done"},
		{"p.", "q.", 0, "fuel"},
		{"p.", "q.", 1, "fault"},
		{"p.", "fail.", 0, "fuel"},
		{"p.", "fail.", 1, "done"},
		{"p.", "less(a,b).", 0, "fuel"},
		{"p.", "p, p, true.", 2, "fuel"},
		{"p.", "p, p, true.", 3, "[] done"},
		{"p.", "!, true, eq(a,a), less(1,2), add(1,2,3).", 4, "fuel"},
		{"p.", "!, true, eq(a,a), less(1,2), add(1,2,3).", 5, "[] done"},
		{"p(1). p(2). p(3). p(4).", "p(X).", 1, "[1] [2] [3] [4] done"},
		{"p(1). p(2). p(3). p(4).", "p(X), p(Y).", 3, "[1 1] [1 2] [1 3] [1 4] [2 1] [2 2] [2 3] [2 4] fuel"},
		{"p(1) :- true. p(2). p(3) :- true. p(4).", "p(X).", 2, "[1] [2] fuel"},
		{"p(1) :- true. p(2). p(3) :- true. p(4).", "p(X).", 3, "[1] [2] [3] [4] done"},
		{"nat(z). nat(s(X)) :- nat(X).", "nat(X).", 5, "[z] [s(z)] [s(s(z))] [s(s(s(z)))] [s(s(s(s(z))))] fuel"},
		{"p(X) :- p(X).", "p(X).", 150, "fuel"},
		{"p :- p, p. p.", "p.", 150, "fuel"},
		// n(X) uses X + 1 goals, and two more for each step.
		{"n(0). n(X) :- less(0,X), add(X,-1,Y), n(Y).", "n(49).", 148, "[] fuel"},
		{"n(0). n(X) :- less(0,X), add(X,-1,Y), n(Y).", "n(49).", 149, "[] done"},
		{"n(0). n(X) :- less(0,X), add(X,-1,Y), n(Y).", "n(50).", 150, "fuel"},
	})
}

func TestMatchingClauses(t *testing.T) {
	check(t, []example{
		{"p(a).", "q(a).", 9, "fault"},
		{"p(a).", "p.", 9, "fault"},
		{"p.", "p(a).", 9, "fault"},
		{"p(a).", "p(a,a).", 9, "fault"},
		{"p(a).", "p(b).", 9, "done"},
		{"", "p.", 9, "fault"},
		{"p(a). p(b,c). p(d). p.", "p(X), p(Y,Z), p.", 9, "[a b c] [d b c] done"},
		{"eq(a). true(b). less(c). add(d,e).", "eq(W), true(X), less(Y), add(Z,e).", 9, "[a b c d] done"},
		{"p.", "eq(a).", 9, "fault"},
		{"p.", "fail(a).", 9, "fault"},
		{"p(1). p(2). r(1). r(2) :- q. r(3).", "p(X), r(X).", 9, "[1] fault"},
		{"p(1) :- q. p(2).", "p(X).", 9, "fault"},
		{"p(1) :- q. p(2).", "p(2).", 9, "[] done"},
	})
}

// P3.4
func TestClausesInOrder(t *testing.T) {
	check(t, []example{
		{"p(c). p(a). q(z). p(b).", "p(X).", 9, "[c] [a] [b] done"},
		{"p(X) :- q(X). p(3). q(1). q(2).", "p(X).", 9, "[1] [2] [3] done"},
		{"p(X,Y) :- q(X), q(Y). q(1). q(2).", "p(X,Y).", 9, "[1 1] [1 2] [2 1] [2 2] done"},
		{"p(f(X),g(Y)) :- eq(X,Y).", "p(A,B).", 9, "[f(A) g(A)] done"},
		{"p(X) :- q(X), r(X). q(1). q(2). q(3). r(3). r(1).", "p(X).", 9, "[1] [3] done"},
	})
}

func TestFreshVariables(t *testing.T) {
	check(t, []example{
		{"p(X,Y).", "p(1,Z), p(Z,Y), p(2,2).", 9, "[A B] done"},
		{"p(X) :- q(X,Y). q(X,X).", "p(1), p(2).", 9, "[] done"},
		{"p(X,X).", "p(Y,X), p(1,Z).", 9, "[A A 1] done"},
		{"p(f(Y,X)).", "p(X), p(Y).", 9, "[f(A,B) f(C,D)] done"},
		{"p(X,Y) :- q(Y,Z), q(X,Z). q(X,f(X)).", "p(A,B).", 9, "[A A] done"},
		{"p(X,f(Y)) :- q(Y). p(X,Y) :- q(X). q(Z).", "p(A,B).", 9, "[A f(B)] [A B] done"},
		{"r(nil,X,X). r(cons(A,X),Y,Z) :- r(X,cons(A,Y),Z).", "r(cons(P,cons(Q,cons(R,nil))),nil,X).", 9, "[A B C cons(C,cons(B,cons(A,nil)))] done"},
	})
	// The query's variables that occur in none of its goals are not those of a clause either.
	p, _, _ := parse(t, "p(X,Y) :- eq(X,f(Y)).", "")
	events, _ := solve.All(p, []api.Term{comp("p", variable(0), variable(1))}, 4, 9)
	if got := lines(events); got != "[f(A) A B C] done" {
		t.Error(got)
	}
}

func TestBindingsAreUndone(t *testing.T) {
	check(t, []example{
		{"p(b,a). p(X,Y).", "p(X,c).", 9, "[A] done"},
		{"p(b,b,a). p(X,Y,Z).", "p(X,Y,c).", 9, "[A B] done"},
		{"p(1). p(2).", "p(X), eq(f(Y,X),f(b,2)).", 9, "[2 b] done"},
		{"p(1) :- eq(Y,1). p(X).", "p(X).", 9, "[1] [A] done"},
		{"p(X,Y) :- eq(X,1), eq(Y,2), fail. p(X,Y) :- eq(Y,3).", "p(X,Y).", 9, "[A 3] done"},
		{"p(1). p(X). p(2).", "p(X), p(Y).", 9, "[1 1] [1 A] [1 2] [A 1] [A B] [A 2] [2 1] [2 A] [2 2] done"},
		{"p(X) :- q(X), eq(X,Y), fail. p(X) :- q(X). q(1). q(2).", "eq(Y,X), p(X).", 9, "[1 1] [2 2] done"},
		// The binding before the choice point stays.
		{"p(1). p(2).", "eq(X,a), p(Y).", 9, "[a 1] [a 2] done"},
		// The goal of the last clause fails back to the choice point before.
		{"p(1). p(2). q(3). q(4).", "p(X), q(Y), less(4,Y).", 9, "done"},
		{"p(1). p(2). q(3). q(4).", "p(X), q(Y), add(X,Y,6).", 9, "[2 4] done"},
	})
}

func TestPendingGoalsAreRestored(t *testing.T) {
	check(t, []example{
		{"p(1) :- a. p(2) :- b. p(3). a. b. c.", "p(X), c, less(1,X), c.", 15, "[2] [3] done"},
		{"p(1) :- a, fail, a. p(2) :- a, a. a.", "p(X), eq(Y,X), eq(Z,Y).", 15, "[2 2 2] done"},
		{"n(X). m :- n(X), fail. m.", "m.", 20, "[] done"},
	})
}

// P3.5
func TestCut(t *testing.T) {
	const p = "p(1). p(2). p(3). "
	check(t, []example{
		{p, "p(X), !.", 20, "[1] done"},
		{p, "!, p(X).", 20, "[1] [2] [3] done"},
		{p, "p(X), less(1,X), !.", 20, "[2] done"},
		{p, "p(X), !, less(1,X).", 20, "done"},
		{p, "p(X), p(Y), !, p(Z).", 20, "[1 1 1] [1 1 2] [1 1 3] done"},
		{p, "p(X), !, p(Y), !.", 20, "[1 1] done"},
		{p + "r(X) :- p(X), !.", "r(X).", 20, "[1] done"},
		{p + "r(X) :- p(X), !.", "p(Y), r(X).", 20, "[1 1] [2 1] [3 1] done"},
		{p + "r(X) :- p(X), !. r(4).", "r(X).", 20, "[1] done"},
		{p + "r(0). r(X) :- p(X), !. r(4).", "r(X).", 20, "[0] [1] done"},
		{p + "r(X) :- p(X), less(2,X), !. r(4).", "r(X).", 20, "[3] done"},
		{p + "r(X) :- p(X), less(3,X), !. r(4).", "r(X).", 20, "[4] done"},
		{p + "r(X,Y) :- p(X), !, p(Y). r(4,4).", "r(X,Y).", 20, "[1 1] [1 2] [1 3] done"},
		{p + "r(X) :- s, p(X). s :- !. s.", "r(X).", 20, "[1] [2] [3] done"},
		{p + "r(X) :- p(X), s. r(4). s :- p(X), !. s.", "r(X).", 20, "[1] [2] [3] [4] done"},
		{p + "r(X,Y) :- p(X), s(Y), !. s(Y) :- p(Y), less(1,Y), !.", "r(X,Y).", 20, "[1 2] done"},
		{p + "r(X) :- p(X), s(X). s(X) :- less(X,2), !, fail. s(X).", "r(X).", 20, "[2] [3] done"},
		{"r(X) :- !, eq(X,1). r(2).", "r(X).", 20, "[1] done"},
		{"r(X) :- eq(X,1), !, fail. r(X).", "r(2), r(1).", 20, "done"},
		{"r(1) :- !. r(2).", "r(2).", 20, "[] done"},
		{"r(X) :- !. r(2).", "r(X), eq(Y,1).", 20, "[A 1] done"},
		{"p.", "!.", 20, "[] done"},
		{"p.", "!, !, fail.", 20, "done"},
		{p, "p(X), eq(Y,!), p(Z), less(X,2), !.", 20, "[1 ! 1] done"},
	})
}

func TestTrueFailEq(t *testing.T) {
	check(t, []example{
		{"p.", "true.", 1, "[] done"},
		{"p.", "true, true.", 2, "[] done"},
		{"p.", "fail.", 1, "done"},
		{"p(1). p(2).", "p(X), fail.", 9, "done"},
		{"p(1). p(2).", "p(X), eq(X,2).", 9, "[2] done"},
		{"p(1). p(2).", "p(X), eq(2,X), true.", 9, "[2] done"},
	})
}

func TestLess(t *testing.T) {
	check(t, []example{
		{"p.", "less(1,2).", 9, "[] done"},
		{"p.", "less(2,2).", 9, "done"},
		{"p.", "less(3,2).", 9, "done"},
		{"p.", "less(-2,-1).", 9, "[] done"},
		{"p.", "less(-1,-2).", 9, "done"},
		{"p.", "less(-1099511627776,1099511627776).", 9, "[] done"},
		{"p.", "less(1099511627776,-1099511627776).", 9, "done"},
		{"p.", "eq(X,Y), eq(Y,3), less(X,4), less(2,X).", 9, "[3 3] done"},
		{"p(3). p(1). p(2).", "p(X), less(X,3).", 9, "[1] [2] done"},
		{"p.", "less(X,1).", 9, "fault"},
		{"p.", "less(1,X).", 9, "fault"},
		{"p.", "less(X,X).", 9, "fault"},
		{"p.", "less(a,1).", 9, "fault"},
		{"p.", "less(1,a).", 9, "fault"},
		{"p.", "less(f(1),2).", 9, "fault"},
		{"p.", "less(0,f(1)).", 9, "fault"},
		{"p.", "eq(X,a), less(1,X).", 9, "fault"},
		{"p(1). p(a). p(2).", "p(X), less(X,1).", 9, "fault"},
	})
}

func TestAdd(t *testing.T) {
	check(t, []example{
		{"p.", "add(2,3,5).", 9, "[] done"},
		{"p.", "add(2,3,6).", 9, "done"},
		{"p.", "add(2,3,X).", 9, "[5] done"},
		{"p.", "add(2,-3,X).", 9, "[-1] done"},
		{"p.", "add(2,3,a).", 9, "done"},
		{"p.", "add(2,3,f(X)).", 9, "done"},
		{"p.", "eq(X,Y), add(2,3,X).", 9, "[5 5] done"},
		{"p.", "eq(X,1), eq(Y,X), add(X,Y,Z).", 9, "[1 1 2] done"},
		{"p.", "eq(X,1), add(X,X,X).", 9, "done"},
		{"p.", "eq(X,0), add(X,X,X).", 9, "[0] done"},
		{"p(1). p(2). p(3).", "p(X), p(Y), add(X,Y,4).", 20, "[1 3] [2 2] [3 1] done"},
		{"p.", "add(X,3,5).", 9, "fault"},
		{"p.", "add(2,X,5).", 9, "fault"},
		{"p.", "add(X,X,5).", 9, "fault"},
		{"p.", "add(a,1,X).", 9, "fault"},
		{"p.", "add(1,a,X).", 9, "fault"},
		{"p.", "add(f(1),1,X).", 9, "fault"},
		{"p.", "add(1,f(1),X).", 9, "fault"},
		{"p.", "add(1099511627775,1,X).", 9, "[1099511627776] done"},
		{"p.", "add(1099511627776,1,X).", 9, "fault"},
		{"p.", "add(1,1099511627776,a).", 9, "fault"},
		{"p.", "add(1099511627776,1099511627776,X).", 9, "fault"},
		{"p.", "add(1099511627776,-1099511627776,X).", 9, "[0] done"},
		{"p.", "add(-1099511627775,-1,X).", 9, "[-1099511627776] done"},
		{"p.", "add(-1099511627776,-1,X).", 9, "fault"},
		{"p.", "add(-1099511627776,-1099511627776,X).", 9, "fault"},
		{"p(1). p(2).", "p(X), add(X,Y,3).", 9, "fault"},
	})
}

// P3.6
func TestAnswers(t *testing.T) {
	check(t, []example{
		{"p(f(A,B),g(B,C)).", "p(X,Y).", 9, "[f(A,B) g(B,C)] done"},
		{"p(f(A,B),g(B,C)).", "p(X,Y), eq(Z,Y).", 9, "[f(A,B) g(B,C) g(B,C)] done"},
		{"p(f(A,B),g(B,C)).", "eq(Z,f(W)), p(X,Y).", 9, "[f(A) A f(B,C) g(C,D)] done"},
		{"p.", "eq(X,f(Y)), eq(Y,g(Z,W)), eq(W,a).", 9, "[f(g(A,a)) g(A,a) A a] done"},
		{"p.", "eq(f(X,Y),f(Z,W)).", 9, "[A B A B] done"},
	})
}

func TestAnswerSize(t *testing.T) {
	const c = "eq(A,f(a,a,a,a)), eq(B,f(A,A,A,A)), eq(C,f(B,B,B,B)), " // 5 + 21 + 85 nodes
	const many = "p(a). p(b). p(C) :- eq(A,f(a,a,a,a)), eq(B,f(A,A,A,A)), eq(D,f(B,B,B,B)), eq(C,f(D,D,D,D)). p(c)."
	check(t, []example{
		{"p.", c + "eq(D,g(C,a,a,a)).", 9, "[" + strings.Join([]string{tree(1), tree(2), tree(3), "g(" + tree(3) + ",a,a,a)"}, " ") + "] done"},
		{"p.", c + "eq(D,g(C,f(a),a,a)).", 9, "large"},
		{"p.", c + "eq(D,g(C,X,Y,a)).", 9, "large"}, // 200 nodes, and two of X and Y
		{"p.", c + "eq(D,f(C,C,C,C)).", 9, "large"},
		{"p :- " + c + "eq(D,f(C,C,C,C)).", "p.", 9, "[] done"},
		{many, "p(X).", 9, "[a] [b] large"},
		{many, "p(X), less(1,2).", 9, "[a] [b] large"},
	})
}

// tree is the text of a full tree of n levels of four arguments.
func tree(n int) string {
	if n == 0 {
		return "a"
	}
	return "f(" + strings.Join(slices.Repeat([]string{tree(n - 1)}, 4), ",") + ")"
}

func TestEnough(t *testing.T) {
	for n := range api.MaxClauses + 1 {
		end := " done"
		if n >= api.MaxAnswers {
			end = " enough"
		}
		if n > 0 {
			check(t, []example{{strings.Repeat("p. ", n), "p.", 1, strings.TrimSpace(strings.Repeat("[] ", min(n, api.MaxAnswers))) + end}})
		}
	}
	check(t, []example{
		{"p. p :- p.", "p.", 150, strings.Repeat("[] ", api.MaxAnswers) + "enough"},
		{"p. p :- p.", "p.", 12, strings.Repeat("[] ", api.MaxAnswers) + "enough"},
		{"p. p :- p.", "p.", 11, strings.Repeat("[] ", api.MaxAnswers-1) + "fuel"},
	})
}

func TestArgumentsStay(t *testing.T) {
	p, q, vars := parse(t, "app(nil,X,X). app(cons(A,X),Y,cons(A,Z)) :- app(X,Y,Z), true.", "app(X,Y,cons(1,cons(W,nil))), true.")
	spare := func(l []api.Term) []api.Term { return append(slices.Clone(l), atom("spare"), atom("spare"))[:len(l)] }
	q = spare(q)
	q[0].Args = spare(q[0].Args)
	for i := range p {
		p[i].Body = spare(p[i].Body)
		p[i].Head.Args = spare(p[i].Head.Args)
	}
	p = append(p, api.Clause{Head: atom("spare")})[:len(p)]
	before := deepText(p[:cap(p)], q)
	first, _ := solve.All(p, q, vars, 150)
	if deepText(p[:cap(p)], q) != before {
		t.Error("arguments are changed")
	}
	second, _ := solve.All(p, q, vars, 150)
	if lines(first) != lines(second) || len(first) != 4 {
		t.Errorf("%s; %s", lines(first), lines(second))
	}
}

// deepText shows all lists with their spare capacity.
func deepText(p []api.Clause, q []api.Term) string {
	var b strings.Builder
	var show func(l []api.Term)
	show = func(l []api.Term) {
		b.WriteString("(")
		for _, t := range l[:cap(l)] {
			b.WriteString(read.Print(api.Term{Kind: t.Kind, N: t.N, S: t.S}) + " ")
			show(t.Args)
		}
		b.WriteString(")")
	}
	for _, c := range p {
		show([]api.Term{c.Head})
		show(c.Body)
	}
	show(q)
	return b.String()
}

func TestResultsAreNew(t *testing.T) {
	p, q, vars := parse(t, "p(f(a,g(b))). p(X).", "eq(X,h(1,k(2))), p(Y), eq(Z,f(X,X)), eq(W,X).")
	texts := deepText(p, q)
	events, _ := solve.All(p, q, vars, 9)
	want := lines(events)
	seen := map[*api.Term]bool{}
	var visit func(l []api.Term)
	visit = func(l []api.Term) {
		for i := range l {
			if seen[&l[i]] {
				t.Errorf("%s: %s is shared", want, read.Print(l[i]))
			}
			seen[&l[i]] = true
			visit(l[i].Args)
			l[i].S = "other"
		}
	}
	for _, e := range events {
		visit(e.Terms)
	}
	if deepText(p, q) != texts {
		t.Error("results share memory with arguments")
	}
}
