package run

import (
	"querist/api"
	"querist/heap"
)

// builtin processes a goal that is a built-in predicate.
func (m *machine) builtin(l link) int {
	args := l.goal + 1
	switch m.heap.Cells[l.goal].S {
	case "!":
		m.choices = m.choices[:l.older]
		return goOn
	case "true":
		return goOn
	case "eq":
		return m.equal(args, args+1)
	case "less":
		return m.less(args)
	case "add":
		return m.add(args)
	}
	return m.retry() // fail
}

func (m *machine) equal(a, b int) int {
	ok, large := m.unify(a, b)
	if large {
		return api.Large
	}
	if !ok {
		return m.retry()
	}
	return goOn
}

// less compares the first two arguments of those at args.
func (m *machine) less(args int) int {
	a, b, ok := m.numbers(args)
	if !ok {
		return api.Fault
	}
	if a >= b {
		return m.retry()
	}
	return goOn
}

// add loads the sum as a cell, since only what is in the heap can be unified.
func (m *machine) add(args int) int {
	a, b, ok := m.numbers(args)
	sum := a + b
	if !ok || sum < -api.MaxNumber || sum > api.MaxNumber {
		return api.Fault
	}
	return m.equal(args+2, m.load([]api.Cell{{Kind: api.Number, N: sum}}))
}

// numbers returns the values of the first two arguments of those at args. It is false if one of them is no number.
func (m *machine) numbers(args int) (int, int, bool) {
	a, b := m.look(args), m.look(args+1)
	if a.Kind != api.Number || b.Kind != api.Number {
		return 0, 0, false
	}
	return a.N, b.N, true
}

// look returns the cell to which an address leads. There is one, since an occurs check comes before each binding.
func (m *machine) look(a int) api.Cell { return m.heap.Cells[heap.Look(m.heap, a)] }
