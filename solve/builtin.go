package solve

import "querist/api"

// builtin processes a goal that is a built-in predicate.
func (s *search) builtin(at *pending) int {
	args := at.goal.Args
	switch at.goal.S {
	case "!":
		s.choices = s.choices[:at.older]
		return goOn
	case "true":
		return goOn
	case "eq":
		return s.equal(args[0], args[1])
	case "less":
		return s.less(args)
	case "add":
		return s.add(args)
	}
	return s.retry() // fail
}

func (s *search) equal(a, b api.Term) int {
	ok, large := s.unify(a, b)
	if large {
		return api.Large
	}
	if !ok {
		return s.retry()
	}
	return goOn
}

func (s *search) less(args []api.Term) int {
	a, b := s.look(args[0]), s.look(args[1])
	if a.Kind != api.Int || b.Kind != api.Int {
		return api.Fault
	}
	if a.N >= b.N {
		return s.retry()
	}
	return goOn
}

func (s *search) add(args []api.Term) int {
	a, b := s.look(args[0]), s.look(args[1])
	if a.Kind != api.Int || b.Kind != api.Int {
		return api.Fault
	}
	sum := a.N + b.N
	if sum < -api.MaxNumber || sum > api.MaxNumber {
		return api.Fault
	}
	return s.equal(args[2], api.Term{Kind: api.Int, N: sum})
}
