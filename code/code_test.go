package code_test

import (
	"math"
	"reflect"
	"slices"
	"testing"

	"querist/api"
	"querist/code"
	"querist/read"
)

func variable(n int) api.Term { return api.Term{Kind: api.Var, N: n} }

func atom(s string) api.Term { return api.Term{Kind: api.Atom, S: s} }

func integer(n int) api.Term { return api.Term{Kind: api.Int, N: n} }

func comp(s string, args ...api.Term) api.Term {
	return api.Term{Kind: api.Comp, S: s, Args: args}
}

// chain nests t in n compound terms with one argument each.
func chain(t api.Term, n int) api.Term {
	for range n {
		t = comp("f", t)
	}
	return t
}

func ref(a int) api.Cell { return api.Cell{Kind: api.Ref, N: a} }

func name(s string) api.Cell { return api.Cell{Kind: api.Name, S: s} }

func number(n int) api.Cell { return api.Cell{Kind: api.Number, N: n} }

func frame(s string, n int) api.Cell { return api.Cell{Kind: api.Frame, N: n, S: s} }

func cells(l ...api.Cell) []api.Cell { return l }

// same compares blocks, in which an empty list may be nil.
func same(a, b api.Block) bool {
	return slices.Equal(a.Cells, b.Cells) && a.Vars == b.Vars && a.Head == b.Head && slices.Equal(a.Goals, b.Goals)
}

// P5.1: each goal is the only one of a query; so its cells are behind those of the variables.
func TestStoredTerms(t *testing.T) {
	const most = api.MaxNumber
	for _, c := range []struct {
		goal api.Term
		vars int
		want []api.Cell // behind the variables
	}{
		{atom("a"), 0, cells(name("a"))},
		{atom("!"), 0, cells(name("!"))},
		{atom("abcdefgh"), 2, cells(name("abcdefgh"))},
		{comp("f", atom("f")), 0, cells(frame("f", 1), name("f"))},
		{comp("f", atom("!")), 0, cells(frame("f", 1), name("!"))},
		{comp("abcdefgh", atom("true")), 1, cells(frame("abcdefgh", 1), name("true"))},
		{comp("f", integer(0)), 0, cells(frame("f", 1), number(0))},
		{comp("f", integer(most), integer(-most), integer(-1), integer(3)), 0, cells(frame("f", 4), number(most), number(-most), number(-1), number(3))},
		{comp("f", variable(0)), 1, cells(frame("f", 1), ref(0))},
		{comp("f", variable(7), variable(0), variable(7)), 8, cells(frame("f", 3), ref(7), ref(0), ref(7))},
		{comp("eq", variable(1), integer(1)), 2, cells(frame("eq", 2), ref(1), number(1))},
		{comp("f", comp("f", atom("a"))), 0, cells(frame("f", 1), ref(2), frame("f", 1), name("a"))},
		{comp("f", comp("f", variable(1))), 2, cells(frame("f", 1), ref(4), frame("f", 1), ref(1))},
		// A compound term is stored with all its arguments before the next one is.
		{
			comp("f", comp("g", comp("h", atom("a"))), comp("g", variable(0))), 1,
			cells(frame("f", 2), ref(4), ref(8), frame("g", 1), ref(6), frame("h", 1), name("a"), frame("g", 1), ref(0)),
		},
		// The other arguments are in their own cells, before all compound ones.
		{
			comp("f", comp("g", integer(1)), variable(0), comp("h", integer(2)), atom("b")), 1,
			cells(frame("f", 4), ref(6), ref(0), ref(8), name("b"), frame("g", 1), number(1), frame("h", 1), number(2)),
		},
		// Equal terms are stored each for itself.
		{
			comp("f", comp("g", variable(0)), comp("g", variable(0))), 3,
			cells(frame("f", 2), ref(6), ref(8), frame("g", 1), ref(0), frame("g", 1), ref(0)),
		},
		{
			comp("f", atom("a"), comp("g", integer(4), comp("h", comp("k", variable(1)), comp("k", atom("c")))), comp("g", integer(5))), 2,
			cells(
				frame("f", 3), name("a"), ref(6), ref(16), // 2
				frame("g", 2), number(4), ref(9), // 6
				frame("h", 2), ref(12), ref(14), // 9
				frame("k", 1), ref(1), // 12
				frame("k", 1), name("c"), // 14
				frame("g", 1), number(5), // 16
			),
		},
	} {
		b, e := code.Query([]api.Term{c.goal}, c.vars)
		if e != api.OK || len(b.Cells) < c.vars || !slices.Equal(b.Cells[c.vars:], c.want) {
			t.Errorf("%s: %+v, %d", read.Print(c.goal), b.Cells, e)
		}
	}
}

func TestDeepestTerm(t *testing.T) {
	var want []api.Cell
	for i := range api.MaxNodes - 2 {
		want = append(want, frame("f", 1), ref(2*i+2))
	}
	want = append(want, frame("f", 1), name("a"))
	b, e := code.Clause(api.Clause{Head: chain(atom("a"), api.MaxNodes-1)})
	if e != api.OK || !same(b, api.Block{Cells: want}) {
		t.Errorf("%+v, %d", b, e)
	}
}

// P5.2
func TestClause(t *testing.T) {
	f := comp("f", variable(0))
	a := atom("a")
	for s, c := range map[string]struct {
		c    api.Clause
		want api.Block
	}{
		"fact": {
			api.Clause{Head: a},
			api.Block{Cells: cells(name("a"))},
		},
		"fact with an empty body": {
			api.Clause{Head: f, Body: []api.Term{}, Vars: 1},
			api.Block{Cells: cells(ref(0), frame("f", 1), ref(0)), Vars: 1, Head: 1},
		},
		"unused variables": {
			api.Clause{Head: a, Vars: 8},
			api.Block{Cells: cells(ref(0), ref(1), ref(2), ref(3), ref(4), ref(5), ref(6), ref(7), name("a")), Vars: 8, Head: 8},
		},
		"rule": {
			api.Clause{Head: comp("r", variable(0)), Body: []api.Term{comp("p", variable(0), variable(1)), atom("!"), comp("less", integer(1), variable(1))}, Vars: 2},
			api.Block{
				Cells: cells(ref(0), ref(1), frame("r", 1), ref(0), frame("p", 2), ref(0), ref(1), name("!"), frame("less", 2), number(1), ref(1)),
				Vars:  2, Head: 2, Goals: []int{4, 7, 8},
			},
		},
		"nested terms": {
			api.Clause{Head: comp("p", comp("g", a), a), Body: []api.Term{comp("p", a, comp("g", f)), f}, Vars: 1},
			api.Block{
				Cells: cells(
					ref(0),
					frame("p", 2), ref(4), name("a"), frame("g", 1), name("a"), // 1
					frame("p", 2), name("a"), ref(9), frame("g", 1), ref(11), frame("f", 1), ref(0), // 6
					frame("f", 1), ref(0), // 13
				),
				Vars: 1, Head: 1, Goals: []int{6, 13},
			},
		},
		"longest body": {
			api.Clause{Head: a, Body: []api.Term{a, atom("b"), a, atom("true"), f}, Vars: 1},
			api.Block{
				Cells: cells(ref(0), name("a"), name("a"), name("b"), name("a"), name("true"), frame("f", 1), ref(0)),
				Vars:  1, Head: 1, Goals: []int{2, 3, 4, 5, 6},
			},
		},
	} {
		if b, e := code.Clause(c.c); e != api.OK || !same(b, c.want) {
			t.Errorf("%s: %+v, %d", s, b, e)
		}
	}
}

func TestQuery(t *testing.T) {
	f := comp("f", variable(0))
	for s, c := range map[string]struct {
		l    []api.Term
		vars int
		want api.Block
	}{
		"no goals, no variables":  {nil, 0, api.Block{Head: -1}},
		"empty list":              {[]api.Term{}, 0, api.Block{Head: -1}},
		"no goals, two variables": {nil, 2, api.Block{Cells: cells(ref(0), ref(1)), Vars: 2, Head: -1}},
		"all variables": {
			nil, 8,
			api.Block{Cells: cells(ref(0), ref(1), ref(2), ref(3), ref(4), ref(5), ref(6), ref(7)), Vars: 8, Head: -1},
		},
		"an atom": {[]api.Term{atom("a")}, 0, api.Block{Cells: cells(name("a")), Head: -1, Goals: []int{0}}},
		"goals": {
			[]api.Term{f, comp("g", f, variable(1)), atom("!")}, 2,
			api.Block{
				Cells: cells(ref(0), ref(1), frame("f", 1), ref(0), frame("g", 2), ref(7), ref(1), frame("f", 1), ref(0), name("!")),
				Vars:  2, Head: -1, Goals: []int{2, 4, 9},
			},
		},
		"most goals": {
			[]api.Term{atom("a"), f, f, atom("fail"), atom("b")}, 1,
			api.Block{
				Cells: cells(ref(0), name("a"), frame("f", 1), ref(0), frame("f", 1), ref(0), name("fail"), name("b")),
				Vars:  1, Head: -1, Goals: []int{1, 2, 4, 6, 7},
			},
		},
	} {
		if b, e := code.Query(c.l, c.vars); e != api.OK || !same(b, c.want) {
			t.Errorf("%s: %+v, %d", s, b, e)
		}
	}
}

// badQueries are lists of goals that are not valid for two variables.
func badQueries() map[string][]api.Term {
	a := atom("a")
	loop := make([]api.Term, 2)
	loop[0], loop[1] = comp("f", loop...), comp("f", loop...)
	return map[string][]api.Term{
		"too many goals":           {a, a, a, a, a, a},
		"goal is a variable":       {a, variable(0)},
		"goal is a number":         {integer(1)},
		"goal of an unknown kind":  {{Kind: 4, S: "a"}},
		"zero value":               {{}},
		"no such variable":         {comp("f", variable(2))},
		"negative variable":        {comp("f", variable(-1))},
		"greatest variable":        {comp("f", comp("f", variable(math.MaxInt)))},
		"least variable":           {comp("f", variable(math.MinInt))},
		"not a name":               {atom("A")},
		"no name":                  {comp("", a)},
		"name too long":            {comp("abcdefghi", a)},
		"cut with an argument":     {comp("!", a)},
		"no arguments":             {comp("f")},
		"too many arguments":       {comp("f", a, a, a, a, a)},
		"argument of unknown kind": {comp("f", a, api.Term{Kind: -1})},
		"atom with an argument":    {comp("f", api.Term{Kind: api.Atom, S: "a", Args: []api.Term{a}})},
		"atom with a number":       {{Kind: api.Atom, S: "a", N: 1}},
		"variable with a name":     {comp("f", api.Term{Kind: api.Var, S: "a"})},
		"number too large":         {comp("f", integer(api.MaxNumber+1))},
		"number too small":         {comp("f", integer(-api.MaxNumber-1))},
		"too many nodes":           {chain(a, api.MaxNodes)},
		"endless":                  loop,
		"last goal is not valid":   {a, a, a, a, comp("f")},
	}
}

func TestErrors(t *testing.T) {
	a := atom("a")
	clauses := map[string]api.Clause{
		"zero clause":             {},
		"built-in head":           {Head: atom("!")},
		"built-in head of two":    {Head: comp("eq", a, a)},
		"built-in head of three":  {Head: comp("add", a, a, a)},
		"too many variables":      {Head: a, Vars: 9},
		"negative variables":      {Head: a, Vars: -1},
		"least variables":         {Head: a, Vars: math.MinInt},
		"greatest variables":      {Head: a, Vars: math.MaxInt},
		"variable of no variable": {Head: comp("f", variable(0))},
	}
	for s, l := range badQueries() {
		clauses["body: "+s] = api.Clause{Head: a, Body: l, Vars: 2}
		if len(l) <= api.MaxBody {
			clauses["head: "+s] = api.Clause{Head: l[len(l)-1], Vars: 2}
		}
		if b, e := code.Query(l, 2); e != api.ErrForm || !reflect.ValueOf(b).IsZero() {
			t.Errorf("query: %s: %+v, %d", s, b, e)
		}
	}
	for s, c := range clauses {
		if b, e := code.Clause(c); e != api.ErrForm || !reflect.ValueOf(b).IsZero() {
			t.Errorf("%s: %+v, %d", s, b, e)
		}
	}
	for _, vars := range []int{-1, 9, math.MinInt, math.MaxInt} {
		if b, e := code.Query([]api.Term{a}, vars); e != api.ErrForm || !reflect.ValueOf(b).IsZero() {
			t.Errorf("%d variables: %+v, %d", vars, b, e)
		}
	}
}

// A query may contain what is not allowed as a head.
func TestBuiltinGoals(t *testing.T) {
	l := []api.Term{atom("!"), atom("true"), atom("fail"), comp("eq", integer(1), integer(2)), comp("add", integer(1), integer(2), integer(3))}
	b, e := code.Query(l, 0)
	want := cells(name("!"), name("true"), name("fail"), frame("eq", 2), number(1), number(2), frame("add", 3), number(1), number(2), number(3))
	if e != api.OK || !same(b, api.Block{Cells: want, Head: -1, Goals: []int{0, 1, 2, 3, 6}}) {
		t.Errorf("%+v, %d", b, e)
	}
}

// Arguments stay as they are, with their spare capacity, and each result has memory of its own.
func TestMemory(t *testing.T) {
	build := func() api.Clause {
		args := append(make([]api.Term, 0, 4), variable(0), comp("g", atom("a")), atom("spare"), atom("spare"))
		body := append(make([]api.Term, 0, 4), comp("f", args[:2]...), comp("h", args[:2]...), atom("spare"), atom("spare"))
		return api.Clause{Head: comp("p", args[:2]...), Body: body[:2], Vars: 1}
	}
	whole := func(c api.Clause) [][]api.Term { return [][]api.Term{c.Head.Args[:4], c.Body[:4], c.Body[0].Args[:4]} }
	c := build()
	var blocks []api.Block
	for range 2 {
		b, e := code.Clause(c)
		q, f := code.Query(c.Body, c.Vars)
		if e != api.OK || f != api.OK {
			t.Fatalf("%d, %d", e, f)
		}
		blocks = append(blocks, b, q)
	}
	for _, b := range blocks[:2] {
		for i := range b.Cells[:cap(b.Cells)] {
			b.Cells[:cap(b.Cells)][i] = name("x")
		}
		for i := range b.Goals[:cap(b.Goals)] {
			b.Goals[:cap(b.Goals)][i] = -7
		}
	}
	if !reflect.DeepEqual(whole(c), whole(build())) {
		t.Errorf("arguments are changed: %+v", c)
	}
	if b, _ := code.Clause(build()); !same(blocks[2], b) {
		t.Errorf("blocks of clauses share memory: %+v", blocks[2])
	}
	if q, _ := code.Query(build().Body, 1); !same(blocks[3], q) {
		t.Errorf("blocks of queries share memory: %+v", blocks[3])
	}
}
