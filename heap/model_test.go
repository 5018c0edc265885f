package heap_test

import (
	"math/rand"
	"reflect"
	"slices"
	"testing"

	"querist/api"
	"querist/heap"
	"querist/solve"
	"querist/term"
)

// A model follows the chapter in another way than the package: bindings are a map beside the cells, which never change; work is a list; an error is a panic.
type model struct {
	cells  []api.Cell
	bound  map[int]int
	order  []int
	worked int
}

type tooLong struct{}

func (m *model) refers(a int) int {
	if to, ok := m.bound[a]; ok {
		return to
	}
	return m.cells[a].N
}

func (m *model) look(a int) int {
	seen := map[int]bool{}
	for m.cells[a].Kind == api.Ref && m.refers(a) != a {
		if seen[a] {
			panic(tooLong{})
		}
		seen[a] = true
		a = m.refers(a)
	}
	return a
}

func (m *model) count() {
	if m.worked++; m.worked > api.MaxWork {
		panic(tooLong{})
	}
}

func (m *model) args(a int) []int {
	var l []int
	if m.cells[a].Kind == api.Frame {
		for i := 1; i <= m.cells[a].N; i++ {
			l = append(l, a+i)
		}
	}
	return l
}

func (m *model) occurs(v, a int) bool {
	for l := []int{a}; len(l) > 0; {
		m.count()
		x := m.look(l[0])
		if x == v {
			return true
		}
		l = append(m.args(x), l[1:]...)
	}
	return false
}

func (m *model) bind(a, to int) {
	m.bound[a] = to
	m.order = append(m.order, a)
}

func (m *model) unify(a, b int) bool {
	for l := [][2]int{{a, b}}; len(l) > 0; {
		m.count()
		x, y := m.look(l[0][0]), m.look(l[0][1])
		l = l[1:]
		c, d := m.cells[x], m.cells[y]
		if c.Kind != api.Ref && d.Kind == api.Ref {
			x, y, c, d = y, x, d, c
		}
		if c.Kind == api.Ref {
			if d.Kind == api.Ref && x != y {
				m.bind(max(x, y), min(x, y))
			} else if d.Kind != api.Ref {
				if m.occurs(x, y) {
					return false
				}
				m.bind(x, y)
			}
			continue
		}
		if c.Kind != d.Kind || c.N != d.N || c.S != d.S {
			return false
		}
		var more [][2]int
		other := m.args(y)
		for i, arg := range m.args(x) {
			more = append(more, [2]int{arg, other[i]})
		}
		l = append(more, l...)
	}
	return true
}

func modelUnify(h api.Heap, a, b int) (out api.Heap, ok bool, errno api.Errno) {
	m := &model{cells: h.Cells, bound: map[int]int{}}
	defer func() {
		if _, long := recover().(tooLong); long {
			out, ok, errno = h, false, api.ErrLong
		}
	}()
	if !m.unify(a, b) {
		return h, false, api.OK
	}
	out = api.Heap{Cells: slices.Clone(h.Cells), Trail: append(slices.Clone(h.Trail), m.order...)}
	for a, to := range m.bound {
		out.Cells[a].N = to
	}
	return out, true, api.OK
}

func modelTerm(h api.Heap, a, most int) (t api.Term, n int, errno api.Errno) {
	m := &model{cells: h.Cells}
	defer func() {
		if _, long := recover().(tooLong); long {
			t, n, errno = api.Term{}, 0, api.ErrLong
		}
	}()
	var build func(a int) api.Term
	build = func(a int) api.Term {
		if n++; n > most {
			panic(tooLong{})
		}
		a = m.look(a)
		c := m.cells[a]
		x := api.Term{Kind: []int{api.Var, api.Atom, api.Int, api.Comp}[c.Kind], S: c.S}
		if c.Kind == api.Ref {
			x.N = a
		} else if c.Kind == api.Number {
			x.N = c.N
		}
		for _, arg := range m.args(a) {
			x.Args = append(x.Args, build(arg))
		}
		return x
	}
	return build(a), n, api.OK
}

// modelMarks repeats one step until it adds no cell.
func modelMarks(h api.Heap, roots []int) []bool {
	m := &model{cells: h.Cells}
	in := make([]bool, len(h.Cells))
	for _, a := range roots {
		in[a] = true
	}
	for more := true; more; {
		more = false
		for a, c := range h.Cells {
			next := m.args(a)
			if c.Kind == api.Ref {
				next = []int{c.N}
			}
			for _, b := range next {
				if in[a] && !in[b] {
					in[b], more = true, true
				}
			}
		}
	}
	return in
}

func modelCollect(h api.Heap, in []bool) api.Heap {
	before := func(a int) int {
		n := 0
		for _, b := range in[:a] {
			if b {
				n++
			}
		}
		return n
	}
	var out api.Heap
	for a, c := range h.Cells {
		if c.Kind == api.Ref {
			c.N = before(c.N)
		}
		if in[a] {
			out.Cells = append(out.Cells, c)
		}
	}
	for _, a := range h.Trail {
		if in[a] {
			out.Trail = append(out.Trail, before(a))
		}
	}
	return out
}

// randomHeap has few different names, so that many terms agree. A Ref refers to a smaller address more often than not, so that most terms are finite.
func randomHeap(r *rand.Rand) api.Heap {
	n := 1 + r.Intn(40)
	h := api.Heap{Cells: make([]api.Cell, n)}
	for a := range h.Cells {
		switch k := r.Intn(10); {
		case k < 2:
			h.Cells[a] = ref(a)
		case k < 6:
			h.Cells[a] = ref(r.Intn(a + 1))
		case k == 6:
			h.Cells[a] = ref(r.Intn(n))
		case k == 7:
			h.Cells[a] = []api.Cell{name("a"), name("a"), number(1), number(2)}[r.Intn(4)]
		default:
			h.Cells[a] = frame([]string{"f", "f", "f", "g"}[r.Intn(4)], []int{2, 2, 2, 1, 4}[r.Intn(5)])
		}
		if c := h.Cells[a]; c.Kind == api.Frame && a+c.N >= n {
			h.Cells[a] = ref(a)
		}
	}
	for a, c := range h.Cells {
		if c.Kind == api.Ref && r.Intn(4) == 0 {
			h.Trail = append(h.Trail, a)
		}
	}
	r.Shuffle(len(h.Trail), func(i, j int) { h.Trail[i], h.Trail[j] = h.Trail[j], h.Trail[i] })
	return h
}

// P4.4 to P4.8
func TestRandomHeapsAgreeWithModel(t *testing.T) {
	r := rand.New(rand.NewSource(4))
	seen := map[string]int{}
	for range 30000 {
		h := randomHeap(r)
		if !heap.Good(h) {
			t.Fatalf("%+v is not valid", h)
		}
		a, b := r.Intn(len(h.Cells)), r.Intn(len(h.Cells))
		checkUnify(t, h, a, b, seen)
		checkTerm(t, h, a, r.Intn(30), seen)
		checkCollect(t, h, []int{a, b}[r.Intn(2):])
	}
	for _, s := range []string{"true", "bound", "false", "long", "term", "long term"} {
		if seen[s] < 1000 {
			t.Errorf("too few of %q: %v", s, seen)
		}
	}
}

func checkUnify(t *testing.T, h api.Heap, a, b int, seen map[string]int) {
	t.Helper()
	got, ok, e := heap.Unify(h, a, b)
	want, wantOK, wantE := modelUnify(h, a, b)
	if ok != wantOK || e != wantE || !same(got, want) {
		t.Fatalf("%+v, %d, %d: %+v, %v, %d; not %+v, %v, %d", h, a, b, got, ok, e, want, wantOK, wantE)
	}
	switch {
	case e != api.OK:
		seen["long"]++
		return
	case !ok:
		seen["false"]++
		return
	}
	seen["true"]++
	seen["bound"] += len(got.Trail) - len(h.Trail)
	if back, e := heap.Undo(got, len(h.Trail)); e != api.OK || !same(back, h) {
		t.Fatalf("%+v, %d, %d: undone to %+v, %d", h, a, b, back, e)
	}
	x, _, e1 := heap.Term(got, a, 100)
	y, _, e2 := heap.Term(got, b, 100)
	if e1 != e2 || !term.Same(x, y) {
		t.Fatalf("%+v, %d, %d: %+v and %+v", h, a, b, x, y)
	}
}

func checkTerm(t *testing.T, h api.Heap, a, most int, seen map[string]int) {
	t.Helper()
	got, n, e := heap.Term(h, a, most)
	want, wantN, wantE := modelTerm(h, a, most)
	if n != wantN || e != wantE || !reflect.DeepEqual(got, want) {
		t.Fatalf("%+v, %d, %d: %+v, %d, %d; not %+v, %d, %d", h, a, most, got, n, e, want, wantN, wantE)
	}
	if e == api.OK {
		seen["term"]++
	} else {
		seen["long term"]++
	}
}

func checkCollect(t *testing.T, h api.Heap, roots []int) {
	t.Helper()
	in, e := heap.Marks(h, roots)
	if want := modelMarks(h, roots); e != api.OK || !slices.Equal(in, want) {
		t.Fatalf("%+v, %v: %v, %d, not %v", h, roots, in, e, want)
	}
	// The old address of each cell that remains.
	var old []int
	for a, kept := range in {
		if kept {
			old = append(old, a)
		}
	}
	got, at, tops, _, e := heap.Collect(h, roots, old, nil)
	if want := modelCollect(h, in); e != api.OK || !same(got, want) || !heap.Good(got) {
		t.Fatalf("%+v, %v: %+v, %d, not %+v", h, roots, got, e, want)
	}
	for i, a := range roots {
		if old[at[i]] != a {
			t.Fatalf("%+v, %v: %v", h, roots, at)
		}
		x, _, e1 := heap.Term(h, a, 100)
		y, _, e2 := heap.Term(got, at[i], 100)
		if e1 != e2 || !reflect.DeepEqual(term.Tidy([]api.Term{x}), term.Tidy([]api.Term{y})) {
			t.Fatalf("%+v, %v: %+v, not %+v", h, roots, y, x)
		}
	}
	for i, n := range tops {
		if n != i {
			t.Fatalf("%+v, %v: %v", h, roots, tops)
		}
	}
}

// store appends the cells of a term, with those of its variables at the same addresses as their numbers.
func store(h *api.Heap, t api.Term) int {
	a := len(h.Cells)
	switch t.Kind {
	case api.Var:
		return t.N
	case api.Atom:
		h.Cells = append(h.Cells, name(t.S))
		return a
	case api.Int:
		h.Cells = append(h.Cells, number(t.N))
		return a
	}
	h.Cells = append(h.Cells, frame(t.S, len(t.Args)))
	h.Cells = append(h.Cells, make([]api.Cell, len(t.Args))...)
	for i, arg := range t.Args {
		h.Cells[a+1+i] = ref(store(h, arg))
	}
	return a
}

// solveOnHeap unifies the arguments of each goal, and returns the events.
func solveOnHeap(t *testing.T, goals []api.Term, vars int) []api.Event {
	h := api.Heap{}
	for v := range vars {
		h.Cells = append(h.Cells, ref(v))
	}
	for _, g := range goals {
		a, b := store(&h, g.Args[0]), store(&h, g.Args[1])
		next, ok, e := heap.Unify(h, a, b)
		switch {
		case e == api.ErrLong:
			return []api.Event{{Kind: api.Large}}
		case e != api.OK:
			t.Fatal(e)
		case !ok:
			return []api.Event{{Kind: api.Done}}
		}
		h = next
	}
	var terms []api.Term
	left := api.MaxSize
	for v := range vars {
		x, n, e := heap.Term(h, v, left)
		if e != api.OK {
			return []api.Event{{Kind: api.Large}}
		}
		terms = append(terms, x)
		left -= n
	}
	return []api.Event{{Kind: api.Answer, Terms: term.Tidy(terms)}, {Kind: api.Done}}
}

// randomTerm has variables from the first to the last one.
func randomTerm(r *rand.Rand, first, last, depth int) api.Term {
	if depth == 0 || r.Intn(8) == 0 {
		if r.Intn(4) > 0 {
			return api.Term{Kind: api.Var, N: first + r.Intn(last-first+1)}
		}
		return []api.Term{{Kind: api.Atom, S: "a"}, {Kind: api.Int, N: 1}}[r.Intn(2)]
	}
	args := make([]api.Term, 4-r.Intn(8)/6)
	for i := range args {
		args[i] = randomTerm(r, first, last, depth-1)
	}
	return api.Term{Kind: api.Comp, S: "f", Args: args}
}

// P4.4: unification is that of terms, and its work as well.
func TestUnifyAgreesWithSolve(t *testing.T) {
	r := rand.New(rand.NewSource(5))
	kinds := map[int]int{}
	for range 20000 {
		vars := api.MaxVars - r.Intn(2)
		goals := make([]api.Term, 1+r.Intn(api.MaxBody))
		for i := range goals {
			// Each variable is bound to a term of those just before it, so that they grow.
			x, y := api.Term{Kind: api.Var, N: i + 1}, randomTerm(r, max(0, i-1), i, 1)
			if r.Intn(5) == 0 {
				x, y = randomTerm(r, 0, i+1, 2), randomTerm(r, 0, vars-1, 2)
			}
			goals[i] = api.Term{Kind: api.Comp, S: "eq", Args: []api.Term{x, y}}
			if r.Intn(2) == 0 {
				slices.Reverse(goals[i].Args)
			}
		}
		if !term.GoodQuery(goals, vars) {
			continue
		}
		want, e := solve.All(nil, goals, vars, api.MaxFuel)
		if got := solveOnHeap(t, goals, vars); e != api.OK || !reflect.DeepEqual(got, want) {
			t.Fatalf("%+v: %+v, not %+v, %d", goals, got, want, e)
		}
		kinds[want[0].Kind]++
	}
	if kinds[api.Answer] < 1000 || kinds[api.Done] < 1000 || kinds[api.Large] < 200 {
		t.Errorf("too few events of a kind: %v", kinds)
	}
}
