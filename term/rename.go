package term

import (
	"slices"

	"querist/api"
)

// The remainders of Shift are taken modulo 2^40.
const modulus = 1 << 40

// Shift adds the remainder of n to the remainder of the number of each variable of t.
func Shift(t api.Term, n int) api.Term {
	more := remainder(n)
	l := rename([]api.Term{t}, func(v int) int { return remainder(v) + more })
	return l[0]
}

// remainder is nonnegative, other than that of Go's operator %.
func remainder(n int) int {
	r := n % modulus
	if r < 0 {
		r += modulus
	}
	return r
}

// Tidy renumbers the variables of l in the order of their first occurrence, from 0 on.
func Tidy(l []api.Term) []api.Term {
	numbers := map[int]int{}
	return rename(l, func(v int) int {
		n, ok := numbers[v]
		if !ok {
			n = len(numbers)
			numbers[v] = n
		}
		return n
	})
}

// rename returns a copy of l in which each variable v is number(v). It calls number for each term before its arguments, in order. Every list is copied before it is changed, since those of the caller stay as they are.
func rename(l []api.Term, number func(v int) int) []api.Term {
	out := slices.Clone(l)
	var p path
	p.add(out)
	for len(p) > 0 {
		x := p.next()
		if x.Kind == api.Var {
			x.N = number(x.N)
		}
		x.Args = slices.Clone(x.Args)
		p.add(x.Args)
	}
	return out
}
