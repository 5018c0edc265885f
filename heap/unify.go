package heap

import (
	"slices"

	"querist/api"
)

// A unifier binds cells of a heap of its own, so that the caller's stays as it is. Once it is long, all its methods return at once: the limit of the work limits the depth of their recursion too.
type unifier struct {
	heap api.Heap
	work int
	long bool
}

// Unify unifies the terms at two addresses.
func Unify(h api.Heap, a, b int) (api.Heap, bool, api.Errno) {
	if !Good(h) {
		return h, false, api.ErrForm
	}
	if !address(h, a) || !address(h, b) {
		return h, false, api.ErrNone
	}
	u := &unifier{heap: api.Heap{Cells: slices.Clone(h.Cells), Trail: slices.Clone(h.Trail)}}
	ok := u.unify(a, b)
	if u.long || ok && len(u.heap.Trail) > api.MaxCells {
		return h, false, api.ErrLong
	}
	if !ok {
		return h, false, api.OK
	}
	return u.heap, true, api.OK
}

// step counts a pair, or a term of an occurs check.
func (u *unifier) step() {
	u.work++
	if u.work > api.MaxWork {
		u.long = true
	}
}

// look has no use for the place of a cell once the unifier is long.
func (u *unifier) look(a int) int {
	if u.long {
		return -1
	}
	place := Look(u.heap, a)
	if place < 0 {
		u.long = true
	}
	return place
}

// unify reports whether the terms at a and b are unified. If they are not, or if this is long, some cells may be bound all the same.
func (u *unifier) unify(a, b int) bool {
	u.step()
	a, b = u.look(a), u.look(b)
	if u.long {
		return false
	}
	free, other := u.unbound(a), u.unbound(b)
	switch {
	case free && other:
		if a != b {
			u.bind(max(a, b), min(a, b))
		}
		return true
	case free:
		return u.assign(a, b)
	case other:
		return u.assign(b, a)
	}
	return u.unifyParts(a, b)
}

// unbound reports whether the cell at an address that Look returned is a variable.
func (u *unifier) unbound(a int) bool { return u.heap.Cells[a].Kind == api.Ref }

func (u *unifier) bind(a, to int) {
	u.heap.Cells[a].N = to
	u.heap.Trail = append(u.heap.Trail, a)
}

// assign binds the unbound cell at a to the term at b, unless it occurs there.
func (u *unifier) assign(a, b int) bool {
	if u.occurs(a, b) || u.long {
		return false
	}
	u.bind(a, b)
	return true
}

// occurs reports whether the unbound cell at a occurs in the term at b. It stops there.
func (u *unifier) occurs(a, b int) bool {
	u.step()
	b = u.look(b)
	if u.long {
		return false
	}
	if a == b {
		return true
	}
	for i := range u.args(b) {
		if u.occurs(a, b+1+i) {
			return true
		}
	}
	return false
}

// args is the number of cells after that at a which are its arguments.
func (u *unifier) args(a int) int { return args(u.heap.Cells[a]) }

func args(c api.Cell) int {
	if c.Kind == api.Frame {
		return c.N
	}
	return 0
}

// unifyParts unifies two terms that are no variables.
func (u *unifier) unifyParts(a, b int) bool {
	if u.heap.Cells[a] != u.heap.Cells[b] {
		return false
	}
	for i := range u.args(a) {
		if !u.unify(a+1+i, b+1+i) {
			return false
		}
	}
	return true
}
