package solve_test

import (
	"math/rand"
	"strings"
	"testing"

	"querist/api"
	"querist/solve"
	"querist/term"
)

// A model follows the chapter in another way than the package: bindings are a list that is never changed, so that nothing is undone; choice points are the calls in progress; a cut is a result that passes through them.
type model struct {
	program         []api.Clause
	vars, fuel      int
	processed, next int
	calls           int
	events          []api.Event
}

type env struct {
	v    int
	t    api.Term
	rest *env
}

type modelGoal struct {
	t    api.Term
	call int // in whose clause it occurs
}

// The kind of the end, which leaves all calls at once.
type modelEnd int

func (e *env) value(t api.Term) api.Term {
	for l := e; l != nil; l = l.rest {
		if t.Kind == api.Var && l.v == t.N {
			return e.value(l.t)
		}
	}
	return t
}

func (m *model) count(work *int) {
	if *work++; *work > api.MaxWork {
		panic(modelEnd(api.Large))
	}
}

// unify takes pairs from the front of a list and puts those of arguments there.
func (m *model) unify(e *env, a, b api.Term) (*env, bool) {
	work := 0
	type pair struct{ a, b api.Term }
	for l := []pair{{a, b}}; len(l) > 0; {
		m.count(&work)
		x, y := e.value(l[0].a), e.value(l[0].b)
		l = l[1:]
		if x.Kind != api.Var && y.Kind == api.Var {
			x, y = y, x
		}
		if x.Kind == api.Var {
			if y.Kind == api.Var && x.N == y.N {
				continue
			}
			if y.Kind != api.Var && m.occurs(e, x.N, y, &work) {
				return nil, false
			}
			e = &env{x.N, y, e}
			continue
		}
		if x.Kind != y.Kind || x.N != y.N || x.S != y.S || len(x.Args) != len(y.Args) {
			return nil, false
		}
		var more []pair
		for i := range x.Args {
			more = append(more, pair{x.Args[i], y.Args[i]})
		}
		l = append(more, l...)
	}
	return e, true
}

func (m *model) occurs(e *env, v int, t api.Term, work *int) bool {
	for l := []api.Term{t}; len(l) > 0; {
		m.count(work)
		x := e.value(l[0])
		if x.Kind == api.Var && x.N == v {
			return true
		}
		l = append(append([]api.Term{}, x.Args...), l[1:]...)
	}
	return false
}

// solve returns 0 if the goals fail, or the number of the call that fails with them because of a cut.
func (m *model) solve(goals []modelGoal, e *env) int {
	if len(goals) == 0 {
		m.answer(e)
		return 0
	}
	if m.processed == m.fuel {
		panic(modelEnd(api.Fuel))
	}
	m.processed++
	g, rest := goals[0], goals[1:]
	if g.t.S == "!" {
		if call := m.solve(rest, e); call != 0 {
			return call
		}
		return g.call
	}
	if term.Builtin(g.t) {
		if e, ok := m.builtin(g.t, e); ok {
			return m.solve(rest, e)
		}
		return 0
	}
	return m.call(g.t, rest, e)
}

func (m *model) call(goal api.Term, rest []modelGoal, e *env) int {
	m.calls++
	self := m.calls
	found := false
	for _, c := range m.program {
		if c.Head.S != goal.S || len(c.Head.Args) != len(goal.Args) {
			continue
		}
		found = true
		shift := m.next
		m.next += c.Vars
		f, ok := m.unify(e, term.Shift(c.Head, shift), goal)
		if !ok {
			continue
		}
		var goals []modelGoal
		for _, t := range c.Body {
			goals = append(goals, modelGoal{term.Shift(t, shift), self})
		}
		switch call := m.solve(append(goals, rest...), f); call {
		case 0:
		case self:
			return 0
		default:
			return call
		}
	}
	if !found {
		panic(modelEnd(api.Fault))
	}
	return 0
}

func (m *model) builtin(t api.Term, e *env) (*env, bool) {
	switch t.S {
	case "true":
		return e, true
	case "fail":
		return nil, false
	case "eq":
		return m.unify(e, t.Args[0], t.Args[1])
	}
	a, b := e.value(t.Args[0]), e.value(t.Args[1])
	if a.Kind != api.Int || b.Kind != api.Int {
		panic(modelEnd(api.Fault))
	}
	if t.S == "less" {
		return e, a.N < b.N
	}
	if sum := a.N + b.N; max(sum, -sum) <= api.MaxNumber {
		return m.unify(e, t.Args[2], number(sum))
	}
	panic(modelEnd(api.Fault))
}

func (m *model) answer(e *env) {
	var terms []api.Term
	size := 0
	var full func(t api.Term) api.Term
	full = func(t api.Term) api.Term {
		if size++; size > api.MaxSize {
			panic(modelEnd(api.Large))
		}
		t = e.value(t)
		var args []api.Term
		for _, x := range t.Args {
			args = append(args, full(x))
		}
		t.Args = args
		return t
	}
	for v := range m.vars {
		terms = append(terms, full(variable(v)))
	}
	m.events = append(m.events, api.Event{Kind: api.Answer, Terms: term.Tidy(terms)})
	if len(m.events) == api.MaxAnswers {
		panic(modelEnd(api.Enough))
	}
}

func modelEvents(program []api.Clause, query []api.Term, vars, fuel int) (events []api.Event) {
	m := &model{program: program, vars: vars, fuel: fuel, next: vars}
	defer func() {
		end, ok := recover().(modelEnd)
		if !ok {
			end = api.Done
		}
		events = append(m.events, api.Event{Kind: int(end)})
	}()
	var goals []modelGoal
	for _, t := range query {
		goals = append(goals, modelGoal{t, -1})
	}
	m.solve(goals, nil)
	return
}

// A writer makes random programs and queries as text.
type writer struct{ *rand.Rand }

func (w writer) pick(l ...string) string { return l[w.Intn(len(l))] }

func (w writer) term(depth int) string {
	if depth > 0 && w.Intn(3) == 0 {
		switch w.Intn(3) {
		case 0:
			return "f(" + w.term(depth-1) + ")"
		case 1:
			return "g(" + w.term(depth-1) + "," + w.term(depth-1) + ")"
		}
		x := w.term(0) // a goal has no room for larger ones
		return "h(" + strings.Join([]string{x, x, x, x}, ",") + ")"
	}
	return w.pick("X", "Y", "Z", "X", "Y", "U", "a", "b", "0", "1", "2")
}

func (w writer) head() string {
	switch w.Intn(4) {
	case 0:
		return "p(" + w.term(2) + ")"
	case 1:
		return "q(" + w.term(1) + "," + w.term(1) + ")"
	case 2:
		return "r(" + w.term(1) + ")"
	}
	return "s"
}

func (w writer) goal() string {
	switch w.Intn(12) {
	case 0, 1:
		return "!"
	case 2:
		return w.pick("fail", "true")
	case 3, 4:
		return "eq(" + w.term(2) + "," + w.term(2) + ")"
	case 5:
		return "less(" + w.pick("X", "0", "1") + "," + w.pick("X", "Y", "1", "2") + ")"
	case 6:
		return "add(" + w.pick("X", "0", "1") + "," + w.pick("1", "2", "-1") + "," + w.pick("X", "Y", "2") + ")"
	}
	return w.head()
}

func (w writer) goals(least int) string {
	l := make([]string, least+w.Intn(4))
	for i := range l {
		l[i] = w.goal()
	}
	return strings.Join(l, ", ")
}

func (w writer) program() string {
	// Most programs have a clause for each predicate, so that a goal means something.
	l := []string{"p(X).", "q(X,h(X,X,X,X)).", "r(1).", "s."}
	l = l[w.Intn(2)*w.Intn(len(l)+1):]
	for range 1 + w.Intn(8) {
		c := w.head()
		if w.Intn(2) == 0 {
			c += " :- " + w.goals(1)
		}
		l = append(l, c+".")
	}
	w.Shuffle(len(l), func(i, j int) { l[i], l[j] = l[j], l[i] })
	return strings.Join(l, " ")
}

// P3.1 to P3.6
func TestRandomProgramsAgreeWithModel(t *testing.T) {
	w := writer{rand.New(rand.NewSource(3))}
	kinds := map[int]int{}
	for range 30000 {
		text, ask := w.program(), w.goals(1)+"."
		p, q, vars := parse(t, text, ask)
		fuel := w.Intn(api.MaxFuel + 1)
		events, e := solve.All(p, q, vars, fuel)
		want := lines(modelEvents(p, q, vars, fuel))
		if got := lines(events); e != api.OK || got != want {
			t.Fatalf("%s ?- %s (%d): %s, %d; not %s", text, ask, fuel, got, e, want)
		}
		kinds[events[len(events)-1].Kind]++
		kinds[api.Answer] += len(events) - 1
	}
	for kind := api.Answer; kind <= api.Enough; kind++ {
		if kinds[kind] < 5 {
			t.Errorf("too few events of kind %d: %v", kind, kinds)
		}
	}
}

// P3.2 and P3.6, with terms whose sizes are around the limits.
func TestRandomTreesAgreeWithModel(t *testing.T) {
	w := writer{rand.New(rand.NewSource(4))}
	kinds := map[int]int{}
	for range 2000 {
		names := []string{"X", "a"}
		var l []string
		for _, v := range []string{"A", "B", "C", "D"} {
			l = append(l, "eq("+v+","+w.tree(names)+")")
			names = append([]string{v}, names...)
		}
		x := w.tree(names)
		l = append(l, w.pick("eq(Y,"+x+")", "eq("+x+",Y)", "eq("+x+","+x+")", "eq("+x+","+w.change(x)+")"))
		body := strings.Join(l, ", ")
		text := "p :- " + body + ". p. p(C) :- " + body + ". p(B) :- " + body + "."
		ask := w.pick("p.", "p(X).", "p(X), p(Y).", "p(X), p(Y), eq(X,Y).")
		p, q, vars := parse(t, text, ask)
		events, e := solve.All(p, q, vars, api.MaxFuel)
		want := lines(modelEvents(p, q, vars, api.MaxFuel))
		if got := lines(events); e != api.OK || got != want {
			t.Fatalf("%s ?- %s: %s, %d; not %s", text, ask, got, e, want)
		}
		kinds[events[len(events)-1].Kind]++
		kinds[api.Answer] += len(events) - 1
	}
	if kinds[api.Large] < 200 || kinds[api.Done] < 200 || kinds[api.Answer] < 200 {
		t.Errorf("too few events of a kind: %v", kinds)
	}
}

// tree makes a term of the names, the first ones more often than the others.
func (w writer) tree(names []string) string {
	l := make([]string, api.MaxArgs-w.Intn(8)/7)
	for i := range l {
		n := 0
		for n < len(names)-1 && w.Intn(4) == 0 {
			n++
		}
		l[i] = names[n]
	}
	return "f(" + strings.Join(l, ",") + ")"
}

// change puts another variable or atom in the place of an argument of a tree.
func (w writer) change(x string) string {
	l := strings.Split(x, ",")
	last := len(l) - 1
	l[last] = w.pick("Y", "A", "X", "b") + ")"
	return strings.Join(l, ",")
}
