package run

import (
	"slices"
	"strconv"
	"strings"
	"testing"

	"querist/api"
	"querist/heap"
	"querist/read"
)

// healthy checks what the machine relies on when it ignores errors of the heap.
func healthy(t *testing.T, m *machine) {
	t.Helper()
	if !heap.Good(m.heap) {
		t.Errorf("heap: %+v", m.heap)
	}
	for _, c := range m.choices {
		h, e := heap.Undo(m.heap, c.bound)
		_, f := heap.Cut(h, c.cells)
		if e != api.OK || f != api.OK || m.links[c.at].goal >= c.cells {
			t.Errorf("choice point %+v: %d, %d", c, e, f)
		}
	}
}

// sizes returns the numbers of cells and of bound ones after each step that processes a goal.
func sizes(t *testing.T, program, query string, fuel, every int) string {
	t.Helper()
	p, e := read.Program(program)
	q, vars, f := read.Query(query)
	if e != api.OK || f != api.OK {
		t.Fatalf("%q: %d, %q: %d", program, e, query, f)
	}
	m := newMachine(p, q, vars, fuel, every)
	var l []string
	for {
		goals := m.goals
		end := m.step()
		healthy(t, m)
		if end != goOn {
			return strings.Join(l, " ")
		}
		if m.goals > goals {
			l = append(l, strconv.Itoa(len(m.heap.Cells))+"/"+strconv.Itoa(len(m.heap.Trail)))
		}
	}
}

// P6.1: when the heap is collected, and what remains in it.
func TestCollections(t *testing.T) {
	const (
		back = "p :- q, fail. p :- q, fail. p. q."
		cut  = "p :- q, !, r. q. q :- a, a, a. r. a."
		sum  = "n(X) :- add(X,1,Y), n(Y)."
		pair = "p(X) :- q(f(X,Y)), a, fail. p(X) :- a, eq(X,1), a. q(f(g(Z),b)). a."
	)
	for _, c := range []struct {
		program, query string
		fuel, every    int
		want           string
	}{
		{"p :- p.", "p.", 6, 0, "3/0 5/0 7/0 9/0 11/0 13/0"},
		{"p :- p.", "p.", 6, 1, "3/0 3/0 3/0 3/0 3/0 3/0"},
		{"p :- p.", "p.", 6, 2, "3/0 5/0 3/0 5/0 3/0 5/0"},
		{"p :- p.", "p.", 6, 3, "3/0 5/0 7/0 3/0 5/0 7/0"},
		{"p :- p.", "p.", 6, 5, "3/0 5/0 7/0 9/0 11/0 3/0"},
		{"p :- p.", "p.", 6, 6, "3/0 5/0 7/0 9/0 11/0 13/0"},
		// The query's variable, the goal, and the variable in it remain.
		{"p(X) :- p(X).", "p(Y).", 4, 0, "8/1 13/2 18/3 23/4"},
		{"p(X) :- p(X).", "p(Y).", 4, 1, "8/1 9/2 9/2 9/2"},
		{"p(X) :- p(X).", "p(Y).", 4, 2, "8/1 13/2 9/2 14/3"},
		// A goal that fails removes the cells of its clause; the goals of choice points remain.
		{back, "p.", 9, 0, "4/0 5/0 4/0 5/0 2/0"},
		{back, "p.", 9, 1, "4/0 4/0 4/0 4/0 2/0"},
		// The goals of choice points that were cut do not.
		{cut, "p.", 9, 0, "5/0 6/0 6/0 7/0"},
		{cut, "p.", 9, 1, "5/0 4/0 3/0 2/0"},
		// Numbers remain as long as variables are bound to them.
		{sum, "n(0).", 6, 0, "12/1 13/2 23/3 24/4 34/5 35/6"},
		{sum, "n(0).", 6, 1, "12/1 10/2 14/2 10/2 14/2 10/2"},
		{sum, "n(0).", 6, 4, "12/1 13/2 23/3 24/4 14/2 15/3"},
	} {
		if got := sizes(t, c.program, c.query, c.fuel, c.every); got != c.want {
			t.Errorf("%s ?- %s (%d, %d): %s, not %s", c.program, c.query, c.fuel, c.every, got, c.want)
		}
	}
	for every := range 12 {
		sizes(t, pair, "p(X), p(Y), eq(X,Y).", 100, every)
		sizes(t, "app(nil,X,X). app(c(A,X),Y,c(A,Z)) :- app(X,Y,Z).", "app(X,Y,c(1,c(A,c(3,nil)))), app(Y,X,Z), eq(A,7), fail.", 150, every)
	}
}

// The machine ignores errors of Load, since even the largest blocks of all goals fit into a heap.
func TestLargestBlocks(t *testing.T) {
	goal := api.Term{Kind: api.Var, N: api.MaxVars - 1}
	for range api.MaxNodes - 1 {
		goal = api.Term{Kind: api.Comp, S: "p", Args: []api.Term{goal}}
	}
	body := slices.Repeat([]api.Term{goal}, api.MaxBody)
	m := newMachine([]api.Clause{{Head: goal, Body: body, Vars: api.MaxVars}}, body, api.MaxVars, api.MaxFuel, 0)
	for m.step() == goOn {
	}
	// A term of n nodes has one cell for each, and n - 2 more: for each argument that is stored elsewhere.
	const cells = 2*api.MaxNodes - 2
	const all = api.MaxVars + api.MaxBody*cells + api.MaxFuel*(api.MaxVars+(api.MaxBody+1)*cells)
	if len(m.heap.Cells) != all || all > api.MaxCells-(api.MaxVars+(api.MaxBody+1)*cells) {
		t.Errorf("%d cells, not %d", len(m.heap.Cells), all)
	}
}
