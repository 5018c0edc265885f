package heap

import "querist/api"

// The place of an address that was not dereferenced yet.
const unknown = -2

// A builder makes terms of a heap's cells, of most nodes in all. It notes what dereferencing found, since many nodes may lie behind one long chain of Refs.
type builder struct {
	heap   api.Heap
	places []int
	nodes  int
	most   int
}

// Term returns the term at an address, and the number of its nodes.
func Term(h api.Heap, a, most int) (api.Term, int, api.Errno) {
	if !Good(h) {
		return api.Term{}, 0, api.ErrForm
	}
	if !address(h, a) {
		return api.Term{}, 0, api.ErrNone
	}
	b := &builder{heap: h, places: make([]int, len(h.Cells)), most: min(most, api.MaxCells)}
	for i := range b.places {
		b.places[i] = unknown
	}
	t, ok := b.term(a)
	if !ok {
		return api.Term{}, 0, api.ErrLong
	}
	return t, b.nodes, api.OK
}

// term is false if the term has too many nodes, or dereferencing does not end. The limit ends a term that contains itself.
func (b *builder) term(a int) (api.Term, bool) {
	if b.nodes >= b.most {
		return api.Term{}, false
	}
	b.nodes++
	place := b.look(a)
	if place < 0 {
		return api.Term{}, false
	}
	c := b.heap.Cells[place]
	switch c.Kind {
	case api.Ref:
		return api.Term{Kind: api.Var, N: place}, true
	case api.Name:
		return api.Term{Kind: api.Atom, S: c.S}, true
	case api.Number:
		return api.Term{Kind: api.Int, N: c.N}, true
	}
	list := make([]api.Term, c.N)
	for i := range list {
		arg, ok := b.term(place + 1 + i)
		if !ok {
			return api.Term{}, false
		}
		list[i] = arg
	}
	return api.Term{Kind: api.Comp, S: c.S, Args: list}, true
}

// look returns what Look returns, and notes it for all cells on the way.
func (b *builder) look(a int) int {
	end := a
	for b.places[end] == unknown {
		if !bound(b.heap, end) {
			b.places[end] = end
			break
		}
		// If the way leads here again, it does not end.
		b.places[end] = -1
		end = b.heap.Cells[end].N
	}
	place := b.places[end]
	if place < 0 {
		return -1
	}
	for ; a != end; a = b.heap.Cells[a].N {
		b.places[a] = place
	}
	return place
}
