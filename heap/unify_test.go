package heap_test

import (
	"math"
	"reflect"
	"slices"
	"testing"

	"querist/api"
	"querist/heap"
)

// P4.4
func TestUnify(t *testing.T) {
	for _, c := range []struct {
		name  string
		cells []api.Cell
		a, b  int
		ok    bool
		bound map[int]int // the new Refs
		trail []int
	}{
		{"equal names", cells(name("a"), name("a")), 0, 1, true, nil, nil},
		{"other names", cells(name("a"), name("b")), 0, 1, false, nil, nil},
		{"equal numbers", cells(number(7), number(7)), 0, 1, true, nil, nil},
		{"other numbers", cells(number(7), number(8)), 0, 1, false, nil, nil},
		{"a name and a number", cells(name("a"), number(0)), 0, 1, false, nil, nil},
		{"a name and a Frame", cells(name("f"), frame("f", 1), name("a")), 0, 1, false, nil, nil},
		{"a number and a Frame", cells(number(1), frame("f", 1), name("a")), 0, 1, false, nil, nil},
		{"equal Frames", cells(frame("f", 2), name("a"), number(1), frame("f", 2), name("a"), number(1)), 0, 3, true, nil, nil},
		{"Frames of other names", cells(frame("f", 1), name("a"), frame("g", 1), name("a")), 0, 2, false, nil, nil},
		{"Frames of other lengths", cells(frame("f", 1), name("a"), frame("f", 2), name("a"), name("a")), 0, 2, false, nil, nil},
		{"other first arguments", cells(frame("f", 2), name("a"), name("c"), frame("f", 2), name("b"), name("c")), 0, 3, false, nil, nil},
		{"other last arguments", cells(frame("f", 2), name("c"), name("a"), frame("f", 2), name("c"), name("b")), 0, 3, false, nil, nil},
		{"a Frame and its own argument", cells(frame("f", 1), frame("f", 1), name("a")), 0, 1, false, nil, nil},
		{"the same address", cells(frame("f", 1), ref(1)), 0, 0, true, nil, nil},
		{"unbound and itself", cells(ref(0)), 0, 0, true, nil, nil},
		{"unbound, and a Ref to it", cells(ref(0), ref(0)), 1, 0, true, nil, nil},
		{"two unbound", cells(ref(0), ref(1)), 0, 1, true, map[int]int{1: 0}, []int{1}},
		{"two unbound the other way round", cells(ref(0), ref(1)), 1, 0, true, map[int]int{1: 0}, []int{1}},
		{"two unbound behind Refs", cells(ref(0), ref(1), ref(3), ref(1), ref(0)), 4, 2, true, map[int]int{1: 0}, []int{1}},
		{"unbound and a name", cells(ref(0), name("a")), 0, 1, true, map[int]int{0: 1}, []int{0}},
		{"a name and unbound", cells(ref(0), name("a")), 1, 0, true, map[int]int{0: 1}, []int{0}},
		{"a number before the unbound cell", cells(number(0), ref(1)), 1, 0, true, map[int]int{1: 0}, []int{1}},
		{"unbound and a Frame", cells(frame("f", 2), ref(1), ref(3), ref(3)), 3, 0, false, nil, nil},
		{"unbound and a Frame without it", cells(frame("f", 2), ref(1), ref(4), ref(3), ref(4)), 3, 0, true, map[int]int{3: 0}, []int{3}},
		{"unbound and a Frame with it", cells(ref(0), frame("f", 1), ref(0)), 0, 1, false, nil, nil},
		{"a Frame and unbound in it", cells(frame("f", 1), ref(1)), 0, 1, false, nil, nil},
		{"deep occurrence", cells(ref(0), frame("f", 2), name("a"), ref(4), frame("g", 1), ref(6), ref(0)), 0, 1, false, nil, nil},
		{"all behind Refs", cells(ref(0), ref(0), name("a"), ref(2), ref(3)), 1, 4, true, map[int]int{0: 2}, []int{0}},
		{"arguments in order", cells(frame("f", 3), ref(1), ref(2), ref(3), frame("f", 3), name("a"), ref(6), name("b")), 0, 4, true, map[int]int{1: 5, 6: 2, 3: 7}, []int{1, 6, 3}},
		{"one variable, other names", cells(ref(0), frame("f", 2), ref(0), ref(0), frame("f", 2), name("a"), name("b")), 1, 4, false, nil, nil},
		{"one variable, equal names", cells(ref(0), frame("f", 2), ref(0), ref(0), frame("f", 2), name("a"), name("a")), 1, 4, true, map[int]int{0: 5}, []int{0}},
		{"occurrence behind a binding", cells(ref(0), ref(1), frame("f", 2), ref(0), ref(1), frame("f", 2), ref(8), ref(0), frame("g", 1), ref(1)), 2, 5, false, nil, nil},
		{"Frames in Frames", cells(frame("f", 1), frame("g", 1), ref(2), frame("f", 1), frame("g", 1), name("a")), 0, 3, true, map[int]int{2: 5}, []int{2}},
	} {
		old := api.Heap{Cells: c.cells}
		h, kept := guard(old)
		got, ok, e := heap.Unify(h, c.a, c.b)
		want := api.Heap{Cells: slices.Clone(c.cells), Trail: c.trail}
		for a, to := range c.bound {
			want.Cells[a].N = to
		}
		if e != api.OK || ok != c.ok || !same(got, want) {
			t.Errorf("%s: %+v, %v, %d", c.name, got, ok, e)
		}
		if !kept() {
			t.Errorf("%s: arguments are changed", c.name)
		}
	}
}

func TestUnifyAppendsToTrail(t *testing.T) {
	h, kept := guard(api.Heap{Cells: cells(ref(0), ref(1), ref(0), frame("f", 2), ref(0), ref(1)), Trail: []int{2, 2}})
	got, ok, e := heap.Unify(h, 4, 5)
	if e != api.OK || !ok || !slices.Equal(got.Trail, []int{2, 2, 1}) || got.Cells[1].N != 0 || !kept() {
		t.Errorf("%+v, %v, %d", got, ok, e)
	}
	back, e := heap.Undo(got, 2)
	if e != api.OK || !same(back, h) {
		t.Errorf("%+v, %d", back, e)
	}
	got, ok, e = heap.Unify(h, 0, 3)
	if e != api.OK || ok || !same(got, h) {
		t.Errorf("%+v, %v, %d", got, ok, e)
	}
}

func TestUnifyNoAddress(t *testing.T) {
	// Cell 0 has no end; a cell that does not exist is mentioned first.
	h := heapOf(ref(1), ref(0), name("a"))
	for _, a := range []int{-1, 3, math.MinInt, math.MaxInt} {
		for _, b := range []int{-1, 0, 2, 3} {
			for _, l := range [][2]int{{a, b}, {b, a}} {
				if got, ok, e := heap.Unify(h, l[0], l[1]); e != api.ErrNone || ok || !reflect.DeepEqual(got, h) {
					t.Errorf("%v: %+v, %v, %d", l, got, ok, e)
				}
			}
		}
	}
	if _, _, e := heap.Unify(api.Heap{}, 0, 0); e != api.ErrNone {
		t.Errorf("empty: %d", e)
	}
}

// join puts the cells of heaps into one, and returns their addresses.
func join(t *testing.T, l ...api.Heap) (api.Heap, []int) {
	t.Helper()
	h := api.Heap{}
	var at []int
	for _, x := range l {
		g, a, e := heap.Load(h, x.Cells)
		if e != api.OK {
			t.Fatal(e)
		}
		h, at = g, append(at, a)
	}
	return h, at
}

// unifies checks what Unify of two addresses says, in both orders.
func unifies(t *testing.T, what string, h api.Heap, a, b int, ok bool, errno api.Errno) {
	t.Helper()
	for _, l := range [][2]int{{a, b}, {b, a}} {
		got, o, e := heap.Unify(h, l[0], l[1])
		if o != ok || e != errno {
			t.Errorf("%s: %v, %d", what, o, e)
		}
		if !o && !reflect.DeepEqual(got, h) {
			t.Errorf("%s: the heap is changed", what)
		}
	}
}

func TestWorkOfPairs(t *testing.T) {
	for n := api.MaxWork - 3; n < api.MaxWork+3; n++ {
		h, at := join(t, nest(n, name("a")), nest(n, name("a")), nest(n, name("b")), nest(n, ref(n)))
		want := api.OK
		if n+1 > api.MaxWork {
			want = api.ErrLong
		}
		unifies(t, "equal", h, at[0], at[1], want == api.OK, want)
		unifies(t, "the same", h, at[0], at[0], want == api.OK, want)
		// What exceeds the work is not compared.
		unifies(t, "not equal", h, at[0], at[2], false, want)
		unifies(t, "the same variable", h, at[3], at[3], want == api.OK, want)
		// One more pair, and one term of the occurs check.
		want = api.OK
		if n+2 > api.MaxWork {
			want = api.ErrLong
		}
		unifies(t, "variable", h, at[3], at[0], want == api.OK, want)
	}
}

func TestWorkOfOccursCheck(t *testing.T) {
	for n := api.MaxWork - 4; n < api.MaxWork+3; n++ {
		h, at := join(t, heapOf(ref(0)), nest(n, name("a")))
		within := nest(n, ref(0))
		start := len(h.Cells)
		h.Cells = append(h.Cells, within.Cells...)
		want := api.OK
		if n+2 > api.MaxWork {
			want = api.ErrLong
		}
		unifies(t, "no occurrence", h, at[0], at[1], want == api.OK, want)
		unifies(t, "occurrence", h, at[0], start, false, want)
	}
	// The check stops at the occurrence.
	h, at := join(t, nest(api.MaxWork, name("a")), heapOf(ref(0)))
	start := len(h.Cells)
	h.Cells = append(h.Cells, frame("f", 2), ref(at[1]), ref(at[0]), frame("f", 2), ref(at[0]), ref(at[1]))
	unifies(t, "occurrence before a long term", h, at[1], start, false, api.OK)
	unifies(t, "occurrence after a long term", h, at[1], start+3, false, api.ErrLong)
}

// Pairs and terms of occurs checks are counted together, over all arguments.
func TestWorkIsSummed(t *testing.T) {
	for n := range 5 {
		// The pair of both Frames, the pairs of two arguments, and a variable with its occurs check.
		h, at := join(t, nest(196+n, name("a")), nest(196, name("a")))
		start := len(h.Cells)
		h.Cells = append(h.Cells, ref(start), frame("f", 3), ref(at[0]), ref(at[1]), ref(start), frame("f", 3), ref(at[0]), ref(at[1]), name("b"))
		work := 1 + (197 + n) + 197 + 2
		want := api.OK
		if work > api.MaxWork {
			want = api.ErrLong
		}
		unifies(t, "sum", h, start+1, start+5, want == api.OK, want)
	}
	// A failure before the limit is a failure.
	long := nest(api.MaxWork, name("a"))
	h, at := join(t, long)
	start := len(h.Cells)
	h.Cells = append(h.Cells, frame("f", 2), name("a"), ref(at[0]), frame("f", 2), name("b"), ref(at[0]), frame("f", 2), ref(at[0]), name("a"), frame("f", 2), ref(at[0]), name("b"))
	unifies(t, "failure first", h, start, start+3, false, api.OK)
	unifies(t, "failure last", h, start+6, start+9, false, api.ErrLong)
}

// What a chain of Refs leads to is one term, however long it is.
func TestRefsAreNoWork(t *testing.T) {
	h := refs(api.MaxCells-1, api.MaxCells-2)
	h.Cells = append(h.Cells, name("a"))
	got, ok, e := heap.Unify(h, api.MaxCells-1, 0)
	if e != api.OK || !ok || got.Cells[api.MaxCells-2].N != api.MaxCells-1 || !slices.Equal(got.Trail, []int{api.MaxCells - 2}) {
		t.Errorf("%v, %v, %d", got.Trail, ok, e)
	}
}

func TestUnifyEndlessTerms(t *testing.T) {
	h := heapOf(
		frame("f", 1), ref(0), // 0: f(f(..))
		frame("f", 1), ref(2), // 2: another one
		frame("g", 1), ref(4), // 4: g(g(..))
		ref(6),                 // 6: unbound
		ref(8), ref(7), ref(8), // 7, 8, 9: no end
		frame("f", 2), ref(6), ref(7), // 10: f(X,?)
		frame("f", 2), name("a"), name("a"), // 13
		frame("f", 2), name("b"), ref(8), // 16: f(b,?)
		frame("f", 2), ref(7), name("b"), // 19: f(?,b)
	)
	unifies(t, "endless terms", h, 0, 2, false, api.ErrLong)
	unifies(t, "an endless term and itself", h, 0, 0, false, api.ErrLong)
	unifies(t, "other endless terms", h, 0, 4, false, api.OK)
	unifies(t, "endless occurs check", h, 0, 6, false, api.ErrLong)
	unifies(t, "endless Refs", h, 7, 8, false, api.ErrLong)
	unifies(t, "endless Ref and itself", h, 9, 9, false, api.ErrLong)
	unifies(t, "endless Ref and unbound", h, 9, 6, false, api.ErrLong)
	unifies(t, "endless Ref and name", h, 9, 14, false, api.ErrLong)
	unifies(t, "endless Ref in an argument", h, 10, 13, false, api.ErrLong)
	unifies(t, "occurrence before an endless Ref", h, 6, 10, false, api.OK)
	unifies(t, "endless Ref in an occurs check", h, 6, 16, false, api.ErrLong)
	unifies(t, "failure before an endless Ref", h, 13, 16, false, api.OK)
	unifies(t, "failure after an endless Ref", h, 13, 19, false, api.ErrLong)
}

func TestUnifyLongTrail(t *testing.T) {
	// f(X,Y), f(a,b), f(a,a)
	l := cells(ref(0), ref(1), ref(2), frame("f", 2), ref(1), ref(2), frame("f", 2), name("a"), name("b"), frame("f", 2), ref(1), ref(1))
	for _, c := range []struct {
		trail, a, b int
		ok          bool
		want        api.Errno
	}{
		{api.MaxCells - 2, 3, 6, true, api.OK},
		{api.MaxCells - 1, 3, 6, false, api.ErrLong},
		{api.MaxCells, 3, 6, false, api.ErrLong},
		{api.MaxCells - 1, 1, 7, true, api.OK},
		{api.MaxCells, 1, 7, false, api.ErrLong},
		{api.MaxCells, 6, 6, true, api.OK},
		{api.MaxCells, 1, 1, true, api.OK},
		{api.MaxCells, 9, 6, false, api.OK}, // a failure after a binding
		{api.MaxCells, 7, 8, false, api.OK},
	} {
		h := api.Heap{Cells: l, Trail: make([]int, c.trail)}
		unifies(t, "long trail", h, c.a, c.b, c.ok, c.want)
		if got, ok, _ := heap.Unify(h, c.a, c.b); ok && !heap.Good(got) {
			t.Errorf("a trail of %d is not valid", len(got.Trail))
		}
	}
}
