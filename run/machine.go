package run

import (
	"querist/api"
	"querist/code"
	"querist/heap"
	"querist/term"
)

// The steps of a machine return the kind of the end, or goOn.
const goOn = 0

// The index of the next link at the end of a list.
const none = -1

// A link is a pending goal, and the index of the one that is pending after it. Choice points keep parts of the list, so that only a collection changes a link: it moves the goal.
type link struct {
	goal int // its address
	// The number of choice points that a cut leaves: those that existed before the clause of this goal was selected.
	older int
	next  int
}

// A choice is a choice point: the link of a goal, the matching clauses that have not been tried, and the lengths of the heap and its trail before the first of them was tried.
type choice struct {
	at      int
	clauses []api.Block
	cells   int
	bound   int
}

// A machine keeps the terms of the query and of all selected clauses in a heap. The query is loaded first, and a collection keeps its variables: each of them is at the address that is its number.
//
// The errors of Load, Undo, Cut and Collect are ignored, since they do not occur. In particular the heap is large enough: there is no more than one block for each goal that has been processed, and those of MaxFuel goals have fewer than MaxCells cells.
type machine struct {
	heap    api.Heap
	clauses []api.Block // of the program
	vars    int         // of the query
	fuel    int         // goals that may be processed in all
	goals   int         // goals that have been processed
	every   int
	links   []link
	first   int // the link of the first pending goal
	choices []choice
	events  []api.Event
}

// newMachine expects a valid program and a valid query.
func newMachine(program []api.Clause, query []api.Term, vars, fuel, every int) *machine {
	m := &machine{vars: vars, fuel: fuel, every: every}
	for _, c := range program {
		block, _ := code.Clause(c)
		m.clauses = append(m.clauses, block)
	}
	block, _ := code.Query(query, vars)
	start := m.load(block.Cells)
	m.first = m.before(block.Goals, start, 0, none)
	return m
}

// load appends the cells of a block to the heap, and returns their address.
func (m *machine) load(block []api.Cell) int {
	h, start, _ := heap.Load(m.heap, block)
	m.heap = h
	return start
}

// before makes a list of the goals of a block that was loaded at start, followed by that at next. It returns the first link.
func (m *machine) before(goals []int, start, older, next int) int {
	for i := len(goals) - 1; i >= 0; i-- {
		m.links = append(m.links, link{goal: start + goals[i], older: older, next: next})
		next = len(m.links) - 1
	}
	return next
}

// step processes the first pending goal, or adds an answer if there is none.
func (m *machine) step() int {
	if m.first == none {
		return m.answer()
	}
	if m.goals == m.fuel {
		return api.Fuel
	}
	if m.every > 0 && m.goals%m.every == 0 {
		m.collect()
	}
	m.goals++
	at := m.first
	l := m.links[at]
	m.first = l.next
	if isBuiltin(m.heap.Cells[l.goal]) {
		return m.builtin(l)
	}
	return m.call(at)
}

// isBuiltin reports whether the goal that starts with a cell is a built-in predicate. The N of a Name is the number of its arguments, too.
func isBuiltin(c api.Cell) bool {
	return term.Builtin(api.Term{S: c.S, Args: make([]api.Term, c.N)})
}

// call processes the goal of a link, which is no built-in predicate.
func (m *machine) call(at int) int {
	clauses := m.matching(m.heap.Cells[m.links[at].goal])
	if len(clauses) == 0 {
		return api.Fault
	}
	return m.attempt(choice{at: at, clauses: clauses, cells: len(m.heap.Cells), bound: len(m.heap.Trail)})
}

// matching returns the clauses whose Head starts with the same cell as the goal: it contains the name and the number of arguments.
func (m *machine) matching(goal api.Cell) []api.Block {
	var l []api.Block
	for _, b := range m.clauses {
		if b.Cells[b.Head] == goal {
			l = append(l, b)
		}
	}
	return l
}

// attempt selects the first clause of c whose head is unified with the goal. The others after it are left to a choice point.
func (m *machine) attempt(c choice) int {
	l := m.links[c.at]
	for i, block := range c.clauses {
		// A block that is of no use is dropped with the heap that contains it.
		h, start, _ := heap.Load(m.heap, block.Cells)
		h, ok, errno := heap.Unify(h, start+block.Head, l.goal)
		if errno != api.OK {
			return api.Large
		}
		if !ok {
			continue
		}
		m.heap = h
		m.first = m.before(block.Goals, start, len(m.choices), l.next)
		c.clauses = c.clauses[i+1:]
		if len(c.clauses) > 0 {
			m.choices = append(m.choices, c)
		}
		return goOn
	}
	return m.retry()
}

// retry goes back to the last choice point, since a goal failed. Each one leaves one less, which limits the recursion.
func (m *machine) retry() int {
	last := len(m.choices) - 1
	if last < 0 {
		return api.Done
	}
	c := m.choices[last]
	m.choices = m.choices[:last]
	m.restore(c)
	return m.attempt(c)
}

// restore makes the heap again what it was when a choice point was created. The bindings are undone first, since they may refer to cells that are removed.
func (m *machine) restore(c choice) {
	h, _ := heap.Undo(m.heap, c.bound)
	m.heap, _ = heap.Cut(h, c.cells)
}

// unify reports whether the terms at two addresses are unified, and whether the work is too large.
func (m *machine) unify(a, b int) (ok, large bool) {
	h, ok, errno := heap.Unify(m.heap, a, b)
	m.heap = h
	return ok, errno != api.OK
}

// answer adds the terms of the query's variables as an answer and goes on as if a goal had failed.
func (m *machine) answer() int {
	terms := make([]api.Term, m.vars)
	left := api.MaxSize
	for v := range terms {
		t, nodes, errno := heap.Term(m.heap, v, left)
		if errno != api.OK {
			return api.Large
		}
		terms[v] = t
		left -= nodes
	}
	m.events = append(m.events, api.Event{Kind: api.Answer, Terms: term.Tidy(terms)})
	if len(m.events) == api.MaxAnswers {
		return api.Enough
	}
	return m.retry()
}
