package read

import (
	"strconv"
	"strings"

	"querist/api"
	"querist/term"
)

// A printer writes a term. Its list of open terms takes the place of recursion, since the depth of a term is not limited, but the call stack is.
type printer struct {
	out  strings.Builder
	open []arguments
}

// arguments of a term whose closing parenthesis is still to be written.
type arguments struct {
	l    []api.Term
	next int
}

// Print returns a term in text form.
func Print(t api.Term) string {
	p := &printer{}
	p.begin(t)
	for len(p.open) > 0 {
		p.step()
	}
	return p.out.String()
}

// begin writes t up to its arguments.
func (p *printer) begin(t api.Term) {
	p.out.WriteString(label(t))
	if term.Goal(t) && len(t.Args) > 0 {
		p.out.WriteByte('(')
		p.open = append(p.open, arguments{l: t.Args})
	}
}

// step begins the next argument of the innermost open term, or closes that term.
func (p *printer) step() {
	last := len(p.open) - 1
	a := &p.open[last]
	if a.next == len(a.l) {
		p.out.WriteByte(')')
		p.open = p.open[:last]
		return
	}
	if a.next > 0 {
		p.out.WriteByte(',')
	}
	a.next++
	p.begin(a.l[a.next-1])
}

// label is the text of t without its arguments.
func label(t api.Term) string {
	switch t.Kind {
	case api.Var:
		return letter(t.N)
	case api.Int:
		return strconv.Itoa(t.N)
	case api.Atom, api.Comp:
		return t.S
	}
	return ""
}

func letter(n int) string {
	if n < 0 || n > 'Z'-'A' {
		return "Zz"
	}
	return string(rune('A' + n))
}
