package solve

import "querist/api"

// A unification counts its work. Once this exceeds MaxWork, all its methods return at once, so that it limits the depth of their recursion too.
type unification struct {
	bindings *bindings
	work     int
}

func (u *unification) large() bool { return u.work > api.MaxWork }

// unify reports whether a and b are unified. If they are not, or if the work is too large, some variables may be bound all the same.
func (u *unification) unify(a, b api.Term) bool {
	u.work++
	if u.large() {
		return false
	}
	a, b = u.bindings.look(a), u.bindings.look(b)
	switch {
	case a.Kind == api.Var && b.Kind == api.Var:
		if a.N != b.N {
			u.bindings.bind(a.N, b)
		}
		return true
	case a.Kind == api.Var:
		return u.assign(a.N, b)
	case b.Kind == api.Var:
		return u.assign(b.N, a)
	}
	return u.unifyParts(a, b)
}

// assign binds v to t, unless v occurs in it.
func (u *unification) assign(v int, t api.Term) bool {
	if u.occurs(v, t) || u.large() {
		return false
	}
	u.bindings.bind(v, t)
	return true
}

// occurs reports whether the unbound variable v occurs in t. It stops there.
func (u *unification) occurs(v int, t api.Term) bool {
	u.work++
	if u.large() {
		return false
	}
	t = u.bindings.look(t)
	if t.Kind == api.Var {
		return t.N == v
	}
	for _, arg := range t.Args {
		if u.occurs(v, arg) {
			return true
		}
	}
	return false
}

// unifyParts unifies two terms that are no variables.
func (u *unification) unifyParts(a, b api.Term) bool {
	if a.Kind != b.Kind || a.N != b.N || a.S != b.S || len(a.Args) != len(b.Args) {
		return false
	}
	for i := range a.Args {
		if !u.unify(a.Args[i], b.Args[i]) {
			return false
		}
	}
	return true
}
