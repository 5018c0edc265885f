package heap_test

import (
	"math"
	"reflect"
	"slices"
	"testing"

	"querist/api"
	"querist/heap"
)

// The cells of the tests of Marks and Collect: f(X,g(Y)) at 2, with X bound to 3 at 9 and Y unbound; other cells.
func sample() api.Heap {
	return api.Heap{
		Cells: cells(
			ref(9), ref(1), // 0: X, Y
			frame("f", 2), ref(0), ref(5), // 2
			frame("g", 1), ref(1), // 5
			ref(5), ref(7), number(3), // 7: bound to g(Y), 8: bound to 7
			frame("h", 4), name("a"), ref(12), ref(10), ref(11), // 10: a Frame that contains itself
			ref(16), ref(15), // 15: no end
		),
		Trail: []int{0, 7, 8, 15, 7},
	}
}

// P4.7
func TestMarks(t *testing.T) {
	for _, c := range []struct {
		roots, want []int
	}{
		{nil, nil},
		{[]int{}, nil},
		{[]int{0}, []int{0, 9}},
		{[]int{1}, []int{1}},
		{[]int{2}, []int{0, 1, 2, 3, 4, 5, 6, 9}},
		{[]int{3}, []int{0, 3, 9}},
		{[]int{4}, []int{1, 4, 5, 6}},
		{[]int{5}, []int{1, 5, 6}},
		{[]int{6}, []int{1, 6}},
		{[]int{8}, []int{1, 5, 6, 7, 8}},
		{[]int{9}, []int{9}},
		{[]int{10}, []int{10, 11, 12, 13, 14}},
		{[]int{13}, []int{10, 11, 12, 13, 14}},
		{[]int{14}, []int{11, 14}},
		{[]int{16}, []int{15, 16}},
		{[]int{14, 6, 9, 6}, []int{1, 6, 9, 11, 14}},
		{[]int{-1, 17, math.MinInt, math.MaxInt}, nil},
		{[]int{-1, 12, 17, 1, math.MaxInt}, []int{1, 12}},
	} {
		h, kept := guard(sample())
		roots := spare(c.roots, 7)
		got, e := heap.Marks(h, roots)
		want := make([]bool, len(h.Cells))
		for _, a := range c.want {
			want[a] = true
		}
		if e != api.OK || !slices.Equal(got, want) {
			t.Errorf("%v: %v, %d", c.roots, got, e)
		}
		if !kept() || !slices.Equal(roots, c.roots) || roots[:cap(roots)][len(roots)] != 7 {
			t.Errorf("%v: arguments are changed", c.roots)
		}
	}
	if got, e := heap.Marks(api.Heap{}, []int{0}); e != api.OK || len(got) != 0 {
		t.Errorf("empty: %v, %d", got, e)
	}
}

func TestMarksOfAllCells(t *testing.T) {
	for _, h := range []api.Heap{refs(api.MaxCells, 0), refs(api.MaxCells, api.MaxCells-1), nest(api.MaxCells-1, ref(0))} {
		got, e := heap.Marks(h, []int{0, 0})
		if e != api.OK || len(got) != api.MaxCells || slices.Contains(got, false) {
			t.Errorf("%d", e)
		}
	}
}

// P4.8
func TestCollect(t *testing.T) {
	for _, c := range []struct {
		roots []int
		want  api.Heap
		at    []int
	}{
		{nil, api.Heap{}, nil},
		{[]int{9}, heapOf(number(3)), []int{0}},
		{[]int{0, 9, 0}, api.Heap{Cells: cells(ref(1), number(3)), Trail: []int{0}}, []int{0, 1, 0}},
		{[]int{8}, api.Heap{Cells: cells(ref(0), frame("g", 1), ref(0), ref(1), ref(3)), Trail: []int{3, 4, 3}}, []int{4}},
		{[]int{13, 11}, heapOf(frame("h", 4), name("a"), ref(2), ref(0), ref(1)), []int{3, 1}},
		{[]int{14}, heapOf(name("a"), ref(0)), []int{1}},
		{[]int{16}, api.Heap{Cells: cells(ref(1), ref(0)), Trail: []int{0}}, []int{1}},
		{[]int{14, 6, 2}, api.Heap{Cells: cells(ref(7), ref(1), frame("f", 2), ref(0), ref(5), frame("g", 1), ref(1), number(3), name("a"), ref(8)), Trail: []int{0}}, []int{9, 6, 2}},
		{[]int{2, 8, 10, 16}, sample(), []int{2, 8, 10, 16}},
	} {
		h, kept := guard(sample())
		roots := spare(c.roots, 7)
		got, at, tops, marks, e := heap.Collect(h, roots, nil, nil)
		if e != api.OK || !same(got, c.want) || !slices.Equal(at, c.at) || len(tops)+len(marks) > 0 {
			t.Errorf("%v: %+v, %v, %v, %v, %d", c.roots, got, at, tops, marks, e)
		}
		if !heap.Good(got) {
			t.Errorf("%v: not valid", c.roots)
		}
		if !kept() || !slices.Equal(roots, c.roots) || roots[:cap(roots)][len(roots)] != 7 {
			t.Errorf("%v: arguments are changed", c.roots)
		}
	}
	if got, at, _, _, e := heap.Collect(api.Heap{}, nil, []int{0, 5}, []int{0, 5}); e != api.OK || len(got.Cells)+len(at) > 0 {
		t.Errorf("empty: %+v, %v, %d", got, at, e)
	}
}

// P4.8: tops and marks may be any numbers, in any order.
func TestCollectTopsAndMarks(t *testing.T) {
	// 1, 5, 6, 7, 8 remain, and of the trail the elements 1, 2 and 4.
	tops := []int{math.MaxInt, -1, 0, 1, 2, 3, 4, 5, 6, 7, 8, 9, 10, 16, 17, 18, math.MinInt, 6}
	wantTops := []int{5, 0, 0, 0, 1, 1, 1, 1, 2, 3, 4, 5, 5, 5, 5, 5, 0, 2}
	marks := []int{math.MinInt, 6, 5, 4, 3, 2, 1, 0, -1, math.MaxInt, 3}
	wantMarks := []int{0, 3, 3, 2, 2, 1, 0, 0, 0, 3, 2}
	ownTops, ownMarks := spare(tops, 7), spare(marks, 7)
	_, at, gotTops, gotMarks, e := heap.Collect(sample(), []int{8}, ownTops, ownMarks)
	if e != api.OK || len(at) != 1 || !slices.Equal(gotTops, wantTops) || !slices.Equal(gotMarks, wantMarks) {
		t.Errorf("%v, %v, %v, %d", at, gotTops, gotMarks, e)
	}
	if !slices.Equal(ownTops, tops) || !slices.Equal(ownMarks, marks) {
		t.Error("arguments are changed")
	}
	_, _, gotTops, gotMarks, e = heap.Collect(sample(), nil, tops, marks)
	if e != api.OK || !slices.Equal(gotTops, make([]int, len(tops))) || !slices.Equal(gotMarks, make([]int, len(marks))) {
		t.Errorf("nothing remains: %v, %v, %d", gotTops, gotMarks, e)
	}
}

func TestCollectNoAddress(t *testing.T) {
	for _, bad := range []int{-1, 17, math.MinInt, math.MaxInt} {
		for _, roots := range [][]int{{bad}, {2, bad}, {bad, 2}} {
			h := sample()
			got, at, tops, marks, e := heap.Collect(h, roots, []int{1}, []int{1})
			if e != api.ErrNone || !reflect.DeepEqual(got, h) || len(at)+len(tops)+len(marks) > 0 {
				t.Errorf("%v: %v, %v, %v, %d", roots, at, tops, marks, e)
			}
		}
	}
	if _, _, _, _, e := heap.Collect(api.Heap{}, []int{0}, nil, nil); e != api.ErrNone {
		t.Errorf("empty: %d", e)
	}
}

func TestCollectAllCells(t *testing.T) {
	h := refs(api.MaxCells, 0)
	h.Trail = make([]int, api.MaxCells)
	got, at, tops, marks, e := heap.Collect(h, []int{5}, []int{api.MaxCells}, []int{api.MaxCells})
	if e != api.OK || !same(got, h) || at[0] != 5 || tops[0] != api.MaxCells || marks[0] != api.MaxCells {
		t.Errorf("%v, %v, %v, %d", at, tops, marks, e)
	}
}
