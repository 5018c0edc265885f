package read

import (
	"slices"
	"strconv"
	"strings"

	"querist/api"
	"querist/term"
)

// A reader takes a text apart, token by token. Its error is sticky: the methods go on after it, but there is nothing left to read, so that only the exported functions have to look at it.
type reader struct {
	token string // the next one; empty at the end of the text
	rest  string // what follows the token
	vars  []string
	err   api.Errno
}

func newReader(s string) *reader {
	r := &reader{rest: s}
	if len(s) > api.MaxSource {
		r.fail(api.ErrLong)
	}
	r.advance()
	return r
}

// fail keeps the first error, which is the one to return.
func (r *reader) fail(e api.Errno) {
	if r.err == api.OK {
		r.err = e
	}
	r.token, r.rest = "", ""
}

func (r *reader) advance() {
	s := strings.TrimLeft(r.rest, " \n\r\t")
	n := tokenLength(s)
	if n == 0 && s != "" {
		r.fail(api.ErrForm)
		return
	}
	r.token, r.rest = s[:n], s[n:]
}

// take passes over a token that has to be there.
func (r *reader) take(token string) {
	if r.token != token {
		r.fail(api.ErrForm)
	}
	r.advance()
}

// clause reads a clause with variables of its own.
func (r *reader) clause() api.Clause {
	r.vars = nil
	c := api.Clause{Head: r.term(api.MaxNodes)}
	if r.token == ":-" {
		r.advance()
		c.Body = r.terms(api.MaxNodes)
	}
	r.take(".")
	c.Vars = len(r.vars)
	if !term.GoodClause(c) {
		r.fail(api.ErrForm)
	}
	return c
}

// terms reads at least one term. In each of them at most depth terms are nested.
func (r *reader) terms(depth int) []api.Term {
	l := []api.Term{r.term(depth)}
	for r.token == "," {
		r.advance()
		l = append(l, r.term(depth))
	}
	return l
}

func (r *reader) term(depth int) api.Term {
	if depth == 0 || r.token == "" {
		r.fail(api.ErrForm)
		return api.Term{}
	}
	token := r.token
	r.advance()
	switch first := token[0]; {
	case isUpper(first):
		return api.Term{Kind: api.Var, N: r.variable(token)}
	case isLower(first) && r.token == "(":
		return api.Term{Kind: api.Comp, S: token, Args: r.arguments(depth - 1)}
	case isLower(first) || first == '!':
		return api.Term{Kind: api.Atom, S: token}
	case isDigit(first) || first == '-':
		return api.Term{Kind: api.Int, N: r.number(token)}
	}
	r.fail(api.ErrForm)
	return api.Term{}
}

func (r *reader) arguments(depth int) []api.Term {
	r.take("(")
	l := r.terms(depth)
	r.take(")")
	return l
}

// variable returns the number of a variable, which is new at its first occurrence.
func (r *reader) variable(name string) int {
	n := slices.Index(r.vars, name)
	if n < 0 {
		n = len(r.vars)
		r.vars = append(r.vars, name)
	}
	return n
}

// number returns what a token of digits stands for. Leading zeros and -0 are those that a number's own text does not have.
func (r *reader) number(token string) int {
	n, err := strconv.Atoi(token)
	if err != nil || strconv.Itoa(n) != token || n < -api.MaxNumber || n > api.MaxNumber {
		r.fail(api.ErrForm)
		return 0
	}
	return n
}

// tokenLength returns the length of the token that s starts with, or 0, if there is none.
func tokenLength(s string) int {
	switch {
	case s == "":
		return 0
	case isUpper(s[0]) || isLower(s[0]):
		return 1 + span(s[1:], isLower)
	case isDigit(s[0]):
		return span(s, isDigit)
	case s[0] == '-':
		if n := span(s[1:], isDigit); n > 0 {
			return 1 + n
		}
	case strings.HasPrefix(s, ":-"):
		return 2
	case strings.IndexByte("(),.!", s[0]) >= 0:
		return 1
	}
	return 0
}

// span returns how many of the first bytes of s belong to a class.
func span(s string, class func(byte) bool) int {
	n := 0
	for n < len(s) && class(s[n]) {
		n++
	}
	return n
}

func isUpper(b byte) bool { return b >= 'A' && b <= 'Z' }

func isLower(b byte) bool { return b >= 'a' && b <= 'z' }

func isDigit(b byte) bool { return b >= '0' && b <= '9' }
