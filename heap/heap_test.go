package heap_test

import (
	"math"
	"reflect"
	"slices"
	"testing"

	"querist/api"
	"querist/heap"
)

func ref(a int) api.Cell { return api.Cell{Kind: api.Ref, N: a} }

func name(s string) api.Cell { return api.Cell{Kind: api.Name, S: s} }

func number(n int) api.Cell { return api.Cell{Kind: api.Number, N: n} }

func frame(s string, n int) api.Cell { return api.Cell{Kind: api.Frame, N: n, S: s} }

func cells(l ...api.Cell) []api.Cell { return l }

func heapOf(l ...api.Cell) api.Heap { return api.Heap{Cells: l} }

// same compares heaps, in which an empty list may be nil.
func same(a, b api.Heap) bool {
	return slices.Equal(a.Cells, b.Cells) && slices.Equal(a.Trail, b.Trail)
}

// spare returns a copy of l with spare capacity that holds x.
func spare[T any](l []T, x T) []T {
	return append(slices.Clone(l), x, x, x, x, x)[:len(l)]
}

// guard returns a copy of h, and a function that reports whether it still is as it was, with its spare capacity.
func guard(h api.Heap) (api.Heap, func() bool) {
	h = api.Heap{Cells: spare(h.Cells, name("spare")), Trail: spare(h.Trail, 77)}
	cells, trail := slices.Clone(h.Cells[:cap(h.Cells)]), slices.Clone(h.Trail[:cap(h.Trail)])
	return h, func() bool {
		return slices.Equal(cells, h.Cells[:cap(h.Cells)]) && slices.Equal(trail, h.Trail[:cap(h.Trail)])
	}
}

// badCells are lists of cells that are no valid heap.
func badCells() map[string][]api.Cell {
	return map[string][]api.Cell{
		"Ref beyond the cells":        cells(ref(1)),
		"Ref far beyond the cells":    cells(ref(0), ref(math.MaxInt)),
		"negative Ref":                cells(ref(-1)),
		"least Ref":                   cells(ref(math.MinInt)),
		"Ref with a name":             cells(api.Cell{Kind: api.Ref, S: "a"}),
		"Name without a name":         cells(name("")),
		"Name with a number":          cells(ref(0), api.Cell{Kind: api.Name, N: 1, S: "a"}),
		"Name with a negative number": cells(api.Cell{Kind: api.Name, N: -1, S: "a"}),
		"Number with a name":          cells(api.Cell{Kind: api.Number, N: 1, S: "a"}),
		"Frame without a name":        cells(frame("", 1), ref(0)),
		"Frame without cells":         cells(frame("f", 0), ref(0)),
		"Frame of negative cells":     cells(frame("f", -1), ref(0)),
		"Frame of the least number":   cells(frame("f", math.MinInt), ref(0)),
		"Frame of too many cells":     cells(frame("f", 5), ref(0), ref(0), ref(0), ref(0), ref(0)),
		"Frame of the most cells":     cells(frame("f", math.MaxInt), ref(0)),
		"Frame at the end":            cells(frame("f", 1)),
		"Frame with too few cells":    cells(ref(0), frame("f", 2), name("a")),
		"Frame in a Frame at the end": cells(frame("f", 1), frame("f", 1)),
		"unknown kind":                cells(api.Cell{Kind: 4}),
		"negative kind":               cells(name("a"), api.Cell{Kind: -1, S: "a"}),
		"least kind":                  cells(api.Cell{Kind: math.MinInt}),
		"bad cell before good ones":   cells(name(""), ref(1), ref(2)),
		"too many cells":              make([]api.Cell, api.MaxCells+1),
	}
}

// badHeaps are all lists of bad cells, and heaps with a bad trail.
func badHeaps() map[string]api.Heap {
	l := map[string]api.Heap{}
	for s, c := range badCells() {
		l[s] = api.Heap{Cells: c}
	}
	for s, trail := range map[string][]int{
		"trail with a Name":            {0, 1},
		"trail with a Number":          {2, 0},
		"trail with a Frame":           {3},
		"trail beyond the cells":       {0, 5},
		"trail with a negative number": {-1, 0},
		"trail with the least number":  {math.MinInt},
		"trail with the most number":   {math.MaxInt},
		"too long trail":               make([]int, api.MaxCells+1),
	} {
		l[s] = api.Heap{Cells: cells(ref(0), name("a"), number(0), frame("f", 1), ref(0)), Trail: trail}
	}
	l["trail without cells"] = api.Heap{Trail: []int{0}}
	return l
}

// P4.1
func TestGood(t *testing.T) {
	all := cells(ref(0), ref(3), name("a"), frame("f", 1), number(7))
	for s, h := range map[string]api.Heap{
		"zero value":           {},
		"empty":                {Cells: cells(), Trail: []int{}},
		"Ref to itself":        heapOf(ref(0)),
		"Refs to each other":   heapOf(ref(1), ref(0)),
		"Ref to the last cell": heapOf(ref(2), name("a"), name("b")),
		"any name":             heapOf(name("A longer name"), name("!"), name("\xff")),
		"any number":           heapOf(number(0), number(math.MinInt), number(math.MaxInt)),
		"all kinds":            {Cells: all},
		"widest Frame":         heapOf(frame("f", 4), name("a"), name("a"), name("a"), name("a")),
		"Frames in Frames":     heapOf(frame("f", 2), frame("g", 2), frame("!", 1), name("a")),
		"Frame of itself":      heapOf(frame("f", 1), ref(0)),
		"trail":                {Cells: all, Trail: []int{1, 0, 1}},
		"most cells":           heapOf(make([]api.Cell, api.MaxCells)...),
		"longest trail":        {Cells: cells(ref(0)), Trail: make([]int, api.MaxCells)},
	} {
		if !heap.Good(h) {
			t.Errorf("%s: not valid", s)
		}
	}
	for s, h := range badHeaps() {
		if heap.Good(h) {
			t.Errorf("%s: valid", s)
		}
	}
}

// P4.1: a heap that is not valid is the first error, whatever the other arguments are.
func TestInvalidHeaps(t *testing.T) {
	far := []int{math.MinInt, -1, 0, 1, math.MaxInt}
	for s, h := range badHeaps() {
		for _, block := range [][]api.Cell{nil, cells(name("a")), cells(ref(9))} {
			if g, a, e := heap.Load(h, block); e != api.ErrForm || a != 0 || !reflect.DeepEqual(g, h) {
				t.Errorf("%s: Load: %d, %d", s, a, e)
			}
		}
		for _, n := range far {
			if g, ok, e := heap.Unify(h, n, 0); e != api.ErrForm || ok || !reflect.DeepEqual(g, h) {
				t.Errorf("%s: Unify: %v, %d", s, ok, e)
			}
			if g, e := heap.Undo(h, n); e != api.ErrForm || !reflect.DeepEqual(g, h) {
				t.Errorf("%s: Undo: %d", s, e)
			}
			if g, e := heap.Cut(h, n); e != api.ErrForm || !reflect.DeepEqual(g, h) {
				t.Errorf("%s: Cut: %d", s, e)
			}
			if x, nodes, e := heap.Term(h, n, n); e != api.ErrForm || nodes != 0 || !reflect.DeepEqual(x, api.Term{}) {
				t.Errorf("%s: Term: %+v, %d, %d", s, x, nodes, e)
			}
		}
		if in, e := heap.Marks(h, far); e != api.ErrForm || len(in) != 0 {
			t.Errorf("%s: Marks: %v, %d", s, in, e)
		}
		for _, roots := range [][]int{nil, far} {
			g, at, tops, marks, e := heap.Collect(h, roots, far, far)
			if e != api.ErrForm || len(at)+len(tops)+len(marks) > 0 || !reflect.DeepEqual(g, h) {
				t.Errorf("%s: Collect: %v, %v, %v, %d", s, at, tops, marks, e)
			}
		}
	}
}

// P4.2
func TestLoad(t *testing.T) {
	block := cells(ref(0), frame("f", 3), ref(0), number(1), ref(6), name("a"), ref(5))
	h := api.Heap{}
	for i := range 4 {
		old, kept := guard(api.Heap{Cells: h.Cells, Trail: []int{0, 0}[:min(i, 2)]})
		own := spare(block, name("spare"))
		start := len(old.Cells)
		got, a, e := heap.Load(old, own)
		want := append(slices.Clone(h.Cells), ref(start), frame("f", 3), ref(start), number(1), ref(start+6), name("a"), ref(start+5))
		if e != api.OK || a != start || a != 7*i || !same(got, api.Heap{Cells: want, Trail: old.Trail}) {
			t.Fatalf("%+v, %d, %d", got, a, e)
		}
		if !kept() || !slices.Equal(own, block) || own[:cap(own)][len(own)] != name("spare") {
			t.Error("arguments are changed")
		}
		h = got
	}
	if got, a, e := heap.Load(h, nil); e != api.OK || a != 28 || !same(got, h) {
		t.Errorf("empty block: %d, %d", a, e)
	}
	if got, a, e := heap.Load(api.Heap{}, cells()); e != api.OK || a != 0 || len(got.Cells) != 0 {
		t.Errorf("nothing: %d, %d", a, e)
	}
	if got, _, e := heap.Load(api.Heap{}, cells(ref(0))); e != api.OK || heap.Look(got, 0) != 0 {
		t.Errorf("example: %+v, %d", got, e)
	}
}

// Two blocks behind one heap do not write into each other.
func TestLoadTwice(t *testing.T) {
	h, _ := guard(heapOf(ref(0)))
	x, _, _ := heap.Load(h, cells(name("x")))
	y, _, _ := heap.Load(h, cells(name("y")))
	if !same(x, heapOf(ref(0), name("x"))) || !same(y, heapOf(ref(0), name("y"))) {
		t.Errorf("%+v, %+v", x, y)
	}
}

func TestLoadErrors(t *testing.T) {
	one := heapOf(name("a"))
	full := heapOf(make([]api.Cell, api.MaxCells)...)
	for s, block := range badCells() {
		for _, h := range []api.Heap{{}, one, full} {
			if got, a, e := heap.Load(h, block); e != api.ErrForm || a != 0 || !reflect.DeepEqual(got, h) {
				t.Errorf("%s: %d, %d", s, a, e)
			}
		}
	}
	// A Ref may not refer to a cell of the heap.
	if _, _, e := heap.Load(full, cells(ref(5))); e != api.ErrForm {
		t.Errorf("Ref beyond the block: %d", e)
	}
	for _, c := range []struct {
		heap, block int
		want        api.Errno
	}{
		{0, api.MaxCells, api.OK},
		{api.MaxCells, 0, api.OK},
		{api.MaxCells - 1, 1, api.OK},
		{1, api.MaxCells - 1, api.OK},
		{api.MaxCells, 1, api.ErrLong},
		{1, api.MaxCells, api.ErrLong},
		{api.MaxCells, api.MaxCells, api.ErrLong},
		{0, api.MaxCells + 1, api.ErrForm},
	} {
		h := api.Heap{Cells: make([]api.Cell, c.heap)}
		got, a, e := heap.Load(h, make([]api.Cell, c.block))
		if e != c.want {
			t.Errorf("%d and %d cells: %d", c.heap, c.block, e)
		}
		if e == api.OK && (a != c.heap || len(got.Cells) != c.heap+c.block) || e != api.OK && (a != 0 || !reflect.DeepEqual(got, h)) {
			t.Errorf("%d and %d cells: %d cells at %d", c.heap, c.block, len(got.Cells), a)
		}
	}
}

// P4.3
func TestLook(t *testing.T) {
	h := heapOf(ref(0), ref(0), ref(1), name("a"), ref(3), number(3), ref(5), ref(9), frame("f", 1), ref(8), ref(11), ref(12), ref(10), ref(11), ref(15), ref(2))
	want := []int{0, 0, 0, 3, 3, 5, 5, 8, 8, 8, -1, -1, -1, -1, 0, 0}
	for a, place := range want {
		if got := heap.Look(h, a); got != place {
			t.Errorf("Look of %d is %d, not %d", a, got, place)
		}
	}
	for _, a := range []int{-1, 16, 17, math.MinInt, math.MaxInt} {
		if got := heap.Look(h, a); got != -1 {
			t.Errorf("Look of %d is %d", a, got)
		}
	}
	for _, a := range []int{-1, 0, 1} {
		if got := heap.Look(api.Heap{}, a); got != -1 {
			t.Errorf("Look of %d in an empty heap is %d", a, got)
		}
	}
}

// P4.3: a heap that is not valid can be dereferenced as well.
func TestLookInInvalidHeaps(t *testing.T) {
	h := heapOf(ref(8), ref(-1), ref(math.MaxInt), ref(math.MinInt), api.Cell{Kind: 4, N: 1}, ref(4), api.Cell{Kind: api.Ref, N: 5, S: "a"}, frame("", 9))
	for a, want := range []int{-1, -1, -1, -1, 4, 4, 4, 7} {
		if got := heap.Look(h, a); got != want {
			t.Errorf("Look of %d is %d, not %d", a, got, want)
		}
	}
	if got := heap.Look(api.Heap{Cells: cells(ref(0)), Trail: []int{9}}, 0); got != 0 {
		t.Errorf("bad trail: %d", got)
	}
	if got := heap.Look(heapOf(make([]api.Cell, api.MaxCells+9)...), api.MaxCells+8); got != 0 {
		t.Errorf("too many cells: %d", got)
	}
}

// refs returns a heap in which each cell refers to the next one, and the last one to the cell last.
func refs(n, last int) api.Heap {
	h := api.Heap{Cells: make([]api.Cell, n)}
	for a := range n - 1 {
		h.Cells[a].N = a + 1
	}
	h.Cells[n-1].N = last
	return h
}

func TestLookAlongAllCells(t *testing.T) {
	for _, n := range []int{1, 2, 3, 10, api.MaxCells} {
		if got := heap.Look(refs(n, n-1), 0); got != n-1 {
			t.Errorf("%d cells: %d", n, got)
		}
		if n > 1 && (heap.Look(refs(n, 0), 0) != -1 || heap.Look(refs(n, n-2), 0) != -1 || heap.Look(refs(n, 0), n-1) != -1) {
			t.Errorf("%d cells: an end", n)
		}
	}
}

// P4.5
func TestUndo(t *testing.T) {
	// Cell 2 refers to 0 without being on the trail; cell 5 is on it twice.
	start := api.Heap{Cells: cells(ref(3), ref(0), ref(0), name("a"), ref(1), ref(4)), Trail: []int{5, 0, 4, 1, 5}}
	for _, c := range []struct {
		n     int
		cells []api.Cell
	}{
		{5, cells(ref(3), ref(0), ref(0), name("a"), ref(1), ref(4))},
		{4, cells(ref(3), ref(0), ref(0), name("a"), ref(1), ref(5))},
		{3, cells(ref(3), ref(1), ref(0), name("a"), ref(1), ref(5))},
		{2, cells(ref(3), ref(1), ref(0), name("a"), ref(4), ref(5))},
		{1, cells(ref(0), ref(1), ref(0), name("a"), ref(4), ref(5))},
		{0, cells(ref(0), ref(1), ref(0), name("a"), ref(4), ref(5))},
	} {
		h, kept := guard(start)
		got, e := heap.Undo(h, c.n)
		if e != api.OK || !same(got, api.Heap{Cells: c.cells, Trail: start.Trail[:c.n]}) {
			t.Errorf("%d: %+v, %d", c.n, got, e)
		}
		if !kept() {
			t.Errorf("%d: arguments are changed", c.n)
		}
	}
	for _, n := range []int{-1, 6, math.MinInt, math.MaxInt} {
		if got, e := heap.Undo(start, n); e != api.ErrRange || !reflect.DeepEqual(got, start) {
			t.Errorf("%d: %+v, %d", n, got, e)
		}
	}
	if got, e := heap.Undo(api.Heap{}, 0); e != api.OK || !same(got, api.Heap{}) {
		t.Errorf("empty: %+v, %d", got, e)
	}
	if _, e := heap.Undo(heapOf(ref(0)), 1); e != api.ErrRange {
		t.Errorf("empty trail: %d", e)
	}
}

// A trail that was made shorter does not write into the longer one.
func TestUnifyAfterUndo(t *testing.T) {
	h := api.Heap{Cells: cells(ref(0), ref(0), ref(0)), Trail: []int{1, 2}}
	u, _ := heap.Undo(h, 0)
	u, ok, e := heap.Unify(u, 2, 1)
	if !ok || e != api.OK || !same(u, api.Heap{Cells: cells(ref(0), ref(1), ref(1)), Trail: []int{2}}) {
		t.Errorf("%+v, %d", u, e)
	}
	if !same(h, api.Heap{Cells: cells(ref(0), ref(0), ref(0)), Trail: []int{1, 2}}) {
		t.Errorf("arguments are changed: %+v", h)
	}
}

// P4.5
func TestCut(t *testing.T) {
	l := cells(ref(0), frame("f", 2), ref(0), ref(3), frame("g", 1), ref(7), ref(0), name("a"))
	for _, c := range []struct {
		name  string
		trail []int
		top   int
		want  api.Errno
	}{
		{"all", []int{6}, 8, api.OK},
		{"without the cell of a Ref", nil, 7, api.ErrForm},
		{"without the cell of a Ref that is not the last one", nil, 6, api.ErrForm},
		{"without the cells of a Frame", nil, 5, api.ErrForm},
		{"before a Frame", nil, 4, api.OK},
		{"with the trail", []int{3, 0}, 4, api.OK},
		{"without a cell of the trail", []int{0, 6}, 4, api.ErrForm},
		{"without the first cell behind, on the trail", []int{5}, 4, api.ErrForm},
		{"within a Frame", nil, 3, api.ErrForm},
		{"at the cells of a Frame", nil, 2, api.ErrForm},
		{"one cell", []int{0}, 1, api.OK},
		{"none", nil, 0, api.OK},
		{"none, but a trail", []int{0}, 0, api.ErrForm},
		{"too many", nil, 9, api.ErrRange},
		{"far too many", nil, math.MaxInt, api.ErrRange},
		{"negative", nil, -1, api.ErrRange},
		{"least", []int{0}, math.MinInt, api.ErrRange},
	} {
		h, kept := guard(api.Heap{Cells: l, Trail: c.trail})
		want := h
		if c.want == api.OK {
			want.Cells = l[:c.top]
		}
		got, e := heap.Cut(h, c.top)
		if e != c.want || !same(got, want) {
			t.Errorf("%s: %+v, %d", c.name, got, e)
		}
		// What is appended to the rest does not replace what was removed.
		got.Cells = append(got.Cells[:len(got.Cells):len(got.Cells)], name("new"))
		if !kept() {
			t.Errorf("%s: arguments are changed", c.name)
		}
	}
}

// P4.6
func TestTerm(t *testing.T) {
	// f(X,g(X,a),-3,Y) with X at 0, Y at 9; h(h(b)) with its parts one within the other
	h := heapOf(ref(0), frame("f", 4), ref(0), ref(6), number(-3), ref(9), frame("g", 2), ref(2), name("a"), ref(9), frame("h", 1), frame("h", 1), ref(13), name("b"), ref(10))
	v, w := api.Term{Kind: api.Var}, api.Term{Kind: api.Var, N: 9}
	a, b := api.Term{Kind: api.Atom, S: "a"}, api.Term{Kind: api.Atom, S: "b"}
	three := api.Term{Kind: api.Int, N: -3}
	g := api.Term{Kind: api.Comp, S: "g", Args: []api.Term{v, a}}
	f := api.Term{Kind: api.Comp, S: "f", Args: []api.Term{v, g, three, w}}
	hb := api.Term{Kind: api.Comp, S: "h", Args: []api.Term{b}}
	hhb := api.Term{Kind: api.Comp, S: "h", Args: []api.Term{hb}}
	for at, c := range []struct {
		want  api.Term
		nodes int
	}{
		{v, 1}, {f, 7}, {v, 1}, {g, 3}, {three, 1}, {w, 1}, {g, 3}, {v, 1}, {a, 1}, {w, 1}, {hhb, 3}, {hb, 2}, {b, 1}, {b, 1}, {hhb, 3},
	} {
		for most := -2; most < 12; most++ {
			got, n, e := heap.Term(h, at, most)
			if most < c.nodes {
				if e != api.ErrLong || n != 0 || !reflect.DeepEqual(got, api.Term{}) {
					t.Errorf("term at %d of %d nodes: %+v, %d, %d", at, most, got, n, e)
				}
			} else if e != api.OK || n != c.nodes || !reflect.DeepEqual(got, c.want) {
				t.Errorf("term at %d of %d nodes: %+v, %d, %d", at, most, got, n, e)
			}
		}
		if _, _, e := heap.Term(h, at, math.MinInt); e != api.ErrLong {
			t.Errorf("least number of nodes: %d", e)
		}
		if _, n, e := heap.Term(h, at, math.MaxInt); e != api.OK || n != c.nodes {
			t.Errorf("most nodes: %d, %d", n, e)
		}
	}
	for _, at := range []int{-1, 15, math.MinInt, math.MaxInt} {
		for _, most := range []int{-1, 0, 9} {
			if got, n, e := heap.Term(h, at, most); e != api.ErrNone || n != 0 || !reflect.DeepEqual(got, api.Term{}) {
				t.Errorf("term at %d: %+v, %d, %d", at, got, n, e)
			}
		}
	}
	// Any name and number is one.
	odd := heapOf(name("An odd name"), number(math.MaxInt))
	if x, _, e := heap.Term(odd, 0, 1); e != api.OK || x.Kind != api.Atom || x.S != "An odd name" {
		t.Errorf("%+v, %d", x, e)
	}
	if x, _, e := heap.Term(odd, 1, 1); e != api.OK || x.Kind != api.Int || x.N != math.MaxInt {
		t.Errorf("%+v, %d", x, e)
	}
}

func TestTermsWithoutEnd(t *testing.T) {
	h := heapOf(ref(1), ref(0), frame("f", 1), ref(2), frame("g", 2), name("a"), ref(0), frame("f", 4), ref(7), ref(7), ref(7), ref(7))
	for _, at := range []int{0, 1, 2, 3, 4, 6, 7, 8} {
		for _, most := range []int{-1, 0, 1, 2, 100, api.MaxCells, math.MaxInt} {
			if x, n, e := heap.Term(h, at, most); e != api.ErrLong || n != 0 || !reflect.DeepEqual(x, api.Term{}) {
				t.Errorf("term at %d of %d nodes: %d, %d", at, most, n, e)
			}
		}
	}
}

// nest returns a heap with a term of n Frames of one argument at 0, one within the other, and the cell last.
func nest(n int, last api.Cell) api.Heap {
	h := api.Heap{}
	for range n {
		h.Cells = append(h.Cells, frame("f", 1))
	}
	h.Cells = append(h.Cells, last)
	return h
}

func TestLargestTerms(t *testing.T) {
	deep := nest(api.MaxCells-1, name("a"))
	if x, n, e := heap.Term(deep, 0, math.MaxInt); e != api.OK || n != api.MaxCells || x.Kind != api.Comp {
		t.Errorf("deepest term: %d, %d", n, e)
	}
	if _, n, e := heap.Term(deep, 0, api.MaxCells-1); e != api.ErrLong || n != 0 {
		t.Errorf("too deep: %d, %d", n, e)
	}
	// A term of 2^15 - 1 nodes, twice, with two more cells or three: around 2^16 nodes.
	double := cells(name("a"))
	at := 0
	for range 14 {
		double = append(double, frame("f", 2), ref(at), ref(at))
		at = len(double) - 3
	}
	double = append(double, frame("g", 3), ref(at), ref(at), name("a"), frame("g", 4), ref(at), ref(at), name("a"), name("a"))
	if _, n, e := heap.Term(api.Heap{Cells: double}, len(double)-9, math.MaxInt); e != api.OK || n != api.MaxCells {
		t.Errorf("largest term: %d, %d", n, e)
	}
	if _, n, e := heap.Term(api.Heap{Cells: double}, len(double)-5, math.MaxInt); e != api.ErrLong || n != 0 {
		t.Errorf("too large: %d, %d", n, e)
	}
}

// All nodes at the end of a long chain of Refs are found.
func TestTermBehindLongChain(t *testing.T) {
	for _, last := range []api.Cell{name("a"), ref(39999)} {
		h := refs(40000, 0)
		h.Cells[39999] = last
		at := 0
		for range 7 {
			h.Cells = append(h.Cells, frame("f", 4), ref(at), ref(at), ref(at), ref(at))
			at = len(h.Cells) - 5
		}
		if _, n, e := heap.Term(h, at, math.MaxInt); e != api.OK || n != 21845 {
			t.Fatalf("%d, %d", n, e)
		}
	}
}

func TestTermKeepsArguments(t *testing.T) {
	h, kept := guard(api.Heap{Cells: cells(ref(1), ref(2), frame("f", 2), ref(4), ref(4)), Trail: []int{0}})
	x, _, e := heap.Term(h, 0, 9)
	if e != api.OK || !kept() {
		t.Errorf("%+v, %d", x, e)
	}
	// Equal arguments share no memory.
	h = heapOf(frame("f", 2), ref(3), ref(3), frame("g", 1), name("a"))
	x, _, _ = heap.Term(h, 0, 9)
	x.Args[0].Args[0].S = "b"
	if x.Args[1].Args[0].S != "a" {
		t.Errorf("%+v", x)
	}
}
