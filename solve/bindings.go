package solve

import (
	"slices"

	"querist/api"
)

// Bindings hold the terms to which variables are bound. The trail lists these variables in the order in which they were bound, so that the last ones can be unbound again.
type bindings struct {
	terms map[int]api.Term
	trail []int
}

func (b *bindings) bind(v int, t api.Term) {
	b.terms[v] = t
	b.trail = append(b.trail, v)
}

// undo removes all bindings but the first n.
func (b *bindings) undo(n int) {
	for _, v := range b.trail[n:] {
		delete(b.terms, v)
	}
	b.trail = b.trail[:n]
}

// look replaces a bound variable by the term to which it is bound. The result is an unbound variable or no variable.
func (b *bindings) look(t api.Term) api.Term {
	for t.Kind == api.Var {
		bound, ok := b.terms[t.N]
		if !ok {
			return t
		}
		t = bound
	}
	return t
}

// apply returns t with all bindings applied, and how many of the nodes that are left it leaves. It is false if t needs more of them: it stops there, since a term whose parts are shared may be huge.
func (b *bindings) apply(t api.Term, left int) (api.Term, int, bool) {
	if left <= 0 {
		return api.Term{}, 0, false
	}
	left--
	t = b.look(t)
	t.Args = slices.Clone(t.Args)
	for i, arg := range t.Args {
		var ok bool
		t.Args[i], left, ok = b.apply(arg, left)
		if !ok {
			return api.Term{}, 0, false
		}
	}
	return t, left, true
}
