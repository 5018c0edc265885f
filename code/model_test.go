package code_test

import (
	"math/rand"
	"slices"
	"testing"

	"querist/api"
	"querist/code"
	"querist/heap"
	"querist/term"
)

// A model follows the chapter in another way than the package: the sizes of the terms say where each of them is, and its cells are written there.

// size returns the number of cells of a stored term.
func size(t api.Term) int {
	n := 1 + len(t.Args)
	for _, arg := range t.Args {
		if arg.Kind == api.Comp {
			n += size(arg)
		}
	}
	return n
}

// write puts t into the cell at a place; a compound term is written from next on, and referred to there.
func write(l []api.Cell, place, next int, t api.Term) {
	switch t.Kind {
	case api.Var:
		l[place] = ref(t.N)
	case api.Atom:
		l[place] = name(t.S)
	case api.Int:
		l[place] = number(t.N)
	case api.Comp:
		if place != next {
			l[place] = ref(next)
		}
		l[next] = frame(t.S, len(t.Args))
		rest := next + 1 + len(t.Args)
		for i, arg := range t.Args {
			write(l, next+1+i, rest, arg)
			if arg.Kind == api.Comp {
				rest += size(arg)
			}
		}
	}
}

// layout returns the cells of terms behind those of variables, and the positions of the terms.
func layout(terms []api.Term, vars int) ([]api.Cell, []int) {
	all := vars
	var positions []int
	for _, t := range terms {
		positions = append(positions, all)
		all += size(t)
	}
	l := make([]api.Cell, all)
	for v := range vars {
		l[v] = ref(v)
	}
	for i, t := range terms {
		write(l, positions[i], positions[i], t)
	}
	return l, positions
}

// A writer makes random terms.
type writer struct{ *rand.Rand }

func (w writer) name() string { return []string{"a", "b", "f", "true", "abcdefgh"}[w.Intn(5)] }

// term makes a term of at most so many nodes; a goal is an Atom or a Comp.
func (w writer) term(nodes, vars int, goal bool) api.Term {
	kind := w.Intn(8)
	switch {
	case kind == 0 && vars > 0 && !goal:
		return variable(w.Intn(vars))
	case kind == 1 && !goal:
		return integer(w.Intn(7) - 3)
	case kind == 2 || nodes < 2:
		return atom(w.name())
	}
	n := 1 + w.Intn(min(api.MaxArgs, nodes-1))
	left := nodes - 1 - n // beside one node for each argument
	args := make([]api.Term, n)
	for i := range args {
		more := w.Intn(left + 1)
		args[i] = w.term(1+more, vars, false)
		left -= more
	}
	return comp(w.name(), args...)
}

func (w writer) goals(vars int) []api.Term {
	l := make([]api.Term, w.Intn(api.MaxBody+1))
	for i := range l {
		l[i] = w.term(api.MaxNodes, vars, true)
	}
	return l
}

// P5.1, P5.2
func TestRandomClauses(t *testing.T) {
	w := writer{rand.New(rand.NewSource(1))}
	clauses := 0
	for range 20000 {
		vars := w.Intn(api.MaxVars + 1)
		c := api.Clause{Head: w.term(api.MaxNodes, vars, true), Body: w.goals(vars), Vars: vars}
		b, e := code.Clause(c)
		if !term.GoodClause(c) {
			if e != api.ErrForm {
				t.Fatalf("%+v: %d", c, e)
			}
		} else {
			clauses++
			l, positions := layout(append([]api.Term{c.Head}, c.Body...), vars)
			if e != api.OK || !same(b, api.Block{Cells: l, Vars: vars, Head: positions[0], Goals: positions[1:]}) {
				t.Fatalf("%+v: %+v, %d", c, b, e)
			}
			checkLoaded(t, b, append([]int{b.Head}, b.Goals...), append([]api.Term{c.Head}, c.Body...))
		}
		q, e := code.Query(c.Body, vars)
		l, positions := layout(c.Body, vars)
		if e != api.OK || !same(q, api.Block{Cells: l, Vars: vars, Head: -1, Goals: positions}) {
			t.Fatalf("%+v: %+v, %d", c.Body, q, e)
		}
		checkLoaded(t, q, q.Goals, c.Body)
	}
	if clauses < 10000 {
		t.Errorf("only %d clauses are valid", clauses)
	}
}

// checkLoaded loads a block into a heap: its positions must be those of the terms, with the first cells as variables.
func checkLoaded(t *testing.T, b api.Block, positions []int, terms []api.Term) {
	t.Helper()
	h := api.Heap{Cells: cells(ref(0), name("a"), number(5))}
	h, start, e := heap.Load(h, b.Cells)
	if e != api.OK || start != 3 {
		t.Fatalf("Load: %d, %d", start, e)
	}
	var got, want []api.Term
	for i, p := range positions {
		x, nodes, e := heap.Term(h, start+p, api.MaxNodes)
		if e != api.OK || nodes != term.Nodes(terms[i]) {
			t.Fatalf("Term: %d, %d", nodes, e)
		}
		got = append(got, x)
		want = append(want, term.Shift(terms[i], start))
	}
	if !slices.EqualFunc(got, want, term.Same) {
		t.Fatalf("%+v, not %+v", got, want)
	}
}
