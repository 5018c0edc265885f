package solve

import (
	"querist/api"
	"querist/term"
)

// The steps of a search return the kind of the end, or goOn.
const goOn = 0

// A pending goal, and those that are pending after it. The list is never changed, since choice points keep parts of it.
type pending struct {
	goal api.Term
	// The number of choice points that a cut leaves: those that existed before the clause of this goal was selected.
	older int
	next  *pending
}

// A choice is a choice point: a goal, the matching clauses that have not been tried, and the number of bindings before the first of them was tried.
type choice struct {
	at      *pending
	clauses []api.Clause
	bound   int
}

type search struct {
	bindings
	program []api.Clause
	vars    int // of the query
	fresh   int // all variables from this one on are unused
	fuel    int // goals that may still be processed
	goals   *pending
	choices []choice
	events  []api.Event
}

func newSearch(program []api.Clause, query []api.Term, vars, fuel int) *search {
	return &search{
		bindings: bindings{terms: map[int]api.Term{}},
		program:  program,
		vars:     vars,
		fresh:    vars,
		fuel:     fuel,
		goals:    before(query, 0, 0, nil),
	}
}

// before returns the list of the goals of a body, with their variables shifted by n, followed by rest.
func before(body []api.Term, n, older int, rest *pending) *pending {
	for i := len(body) - 1; i >= 0; i-- {
		rest = &pending{goal: term.Shift(body[i], n), older: older, next: rest}
	}
	return rest
}

// step processes the first pending goal, or adds an answer if there is none.
func (s *search) step() int {
	if s.goals == nil {
		return s.answer()
	}
	if s.fuel == 0 {
		return api.Fuel
	}
	s.fuel--
	at := s.goals
	s.goals = at.next
	if term.Builtin(at.goal) {
		return s.builtin(at)
	}
	clauses := s.matching(at.goal)
	if len(clauses) == 0 {
		return api.Fault
	}
	s.choices = append(s.choices, choice{at: at, clauses: clauses, bound: len(s.trail)})
	return s.retry()
}

// matching returns the clauses whose Head has the S and the number of arguments of the goal.
func (s *search) matching(goal api.Term) []api.Clause {
	var l []api.Clause
	for _, c := range s.program {
		if c.Head.S == goal.S && len(c.Head.Args) == len(goal.Args) {
			l = append(l, c)
		}
	}
	return l
}

// retry goes back to the last choice point and tries its next clause, until one succeeds. A choice point is removed before its last clause is tried, so that it exists only as long as there are more of them.
func (s *search) retry() int {
	for len(s.choices) > 0 {
		last := len(s.choices) - 1
		c := &s.choices[last]
		s.undo(c.bound)
		at, clause := c.at, c.clauses[0]
		c.clauses = c.clauses[1:]
		if len(c.clauses) == 0 {
			s.choices = s.choices[:last]
		}
		shift := s.fresh
		s.fresh += clause.Vars
		ok, large := s.unify(term.Shift(clause.Head, shift), at.goal)
		if large {
			return api.Large
		}
		if ok {
			s.goals = before(clause.Body, shift, last, at.next)
			return goOn
		}
	}
	return api.Done
}

// unify reports whether two terms are unified, and whether the work is too large.
func (s *search) unify(a, b api.Term) (ok, large bool) {
	u := unification{bindings: &s.bindings}
	ok = u.unify(a, b)
	return ok, u.large()
}

// answer adds the terms of the query's variables as an answer and goes on as if a goal had failed.
func (s *search) answer() int {
	terms := make([]api.Term, s.vars)
	left := api.MaxSize
	for v := range terms {
		var ok bool
		terms[v], left, ok = s.apply(api.Term{Kind: api.Var, N: v}, left)
		if !ok {
			return api.Large
		}
	}
	s.events = append(s.events, api.Event{Kind: api.Answer, Terms: term.Tidy(terms)})
	if len(s.events) == api.MaxAnswers {
		return api.Enough
	}
	return s.retry()
}
