package term

import "querist/api"

// A path holds the terms that are still to be visited: a list for each level, none of them empty. It takes the place of recursion, since the depth of a term is not limited, but the call stack is.
type path [][]api.Term

func newPath(t api.Term) path { return path{{t}} }

// add makes the terms of l the next ones, in their order.
func (p *path) add(l []api.Term) {
	if len(l) > 0 {
		*p = append(*p, l)
	}
}

// next takes the next term from a path that is not empty. A list is dropped together with its last term, so that a long chain of terms needs no more than one list.
func (p *path) next() *api.Term {
	last := len(*p) - 1
	level := (*p)[last]
	if len(level) == 1 {
		*p = (*p)[:last]
	} else {
		(*p)[last] = level[1:]
	}
	return &level[0]
}
