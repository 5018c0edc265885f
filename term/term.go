// Package term: see ../../shared/doc/01-term.md.
package term

import "querist/api"

const cut = "!"

// Named reports whether s is a name: 1 to MaxName lower-case letters, or `!`.
func Named(s string) bool {
	if s == cut {
		return true
	}
	if len(s) < 1 || len(s) > api.MaxName {
		return false
	}
	for i := range len(s) {
		if s[i] < 'a' || s[i] > 'z' {
			return false
		}
	}
	return true
}

// Good reports whether t is a valid term for vars variables.
func Good(t api.Term, vars int) bool {
	p := newPath(t)
	for len(p) > 0 {
		x := p.next()
		if !goodNode(*x, vars) {
			return false
		}
		p.add(x.Args)
	}
	return true
}

// goodNode reports whether t is valid, whatever its arguments are.
func goodNode(t api.Term, vars int) bool {
	args := len(t.Args)
	switch t.Kind {
	case api.Var:
		return t.N >= 0 && t.N < vars && t.S == "" && args == 0
	case api.Atom:
		return t.N == 0 && Named(t.S) && args == 0
	case api.Int:
		return t.N >= -api.MaxNumber && t.N <= api.MaxNumber && t.S == "" && args == 0
	case api.Comp:
		return t.N == 0 && Named(t.S) && t.S != cut && args >= 1 && args <= api.MaxArgs
	}
	return false
}

// Nodes returns the number of terms in t, including t itself.
func Nodes(t api.Term) int {
	n := 0
	p := newPath(t)
	for len(p) > 0 {
		n++
		p.add(p.next().Args)
	}
	return n
}

// Goal reports whether t is an Atom or a Comp.
func Goal(t api.Term) bool { return t.Kind == api.Atom || t.Kind == api.Comp }

// Builtin reports whether t has the S and the number of arguments of a built-in predicate.
func Builtin(t api.Term) bool {
	switch t.S {
	case cut, "true", "fail":
		return len(t.Args) == 0
	case "eq", "less":
		return len(t.Args) == 2
	case "add":
		return len(t.Args) == 3
	}
	return false
}

// GoodClause reports whether c is a valid clause.
func GoodClause(c api.Clause) bool {
	return GoodQuery(c.Body, c.Vars) && goodGoal(c.Head, c.Vars) && !Builtin(c.Head)
}

// GoodQuery reports whether l is a valid query of vars variables.
func GoodQuery(l []api.Term, vars int) bool {
	if vars < 0 || vars > api.MaxVars || len(l) > api.MaxBody {
		return false
	}
	for _, t := range l {
		if !goodGoal(t, vars) {
			return false
		}
	}
	return true
}

// goodGoal looks at the size first, so that a huge term is rejected without visiting all of it.
func goodGoal(t api.Term, vars int) bool {
	return Goal(t) && fits(t, api.MaxNodes) && Good(t, vars)
}

// fits reports whether t has at most most nodes. It stops at the first node beyond them: this also limits the depth of the recursion.
func fits(t api.Term, most int) bool {
	left := most
	var visit func(api.Term) bool
	visit = func(x api.Term) bool {
		if left <= 0 {
			return false
		}
		left--
		for _, arg := range x.Args {
			if !visit(arg) {
				return false
			}
		}
		return true
	}
	return visit(t)
}

// GoodProgram reports whether there are at most MaxClauses clauses, all of which are valid.
func GoodProgram(l []api.Clause) bool {
	if len(l) > api.MaxClauses {
		return false
	}
	for _, c := range l {
		if !GoodClause(c) {
			return false
		}
	}
	return true
}

// Same reports whether a and b are equal.
func Same(a, b api.Term) bool {
	p, q := newPath(a), newPath(b)
	// Arguments are added in equal numbers, so that q ends where p ends.
	for len(p) > 0 {
		x, y := p.next(), q.next()
		if x.Kind != y.Kind || x.N != y.N || x.S != y.S || len(x.Args) != len(y.Args) {
			return false
		}
		p.add(x.Args)
		q.add(y.Args)
	}
	return true
}
