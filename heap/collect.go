package heap

import "querist/api"

// Marks returns which cells are reachable from roots.
func Marks(h api.Heap, roots []int) ([]bool, api.Errno) {
	if !Good(h) {
		return nil, api.ErrForm
	}
	reached := make([]bool, len(h.Cells))
	var waiting []int
	reach := func(a int) {
		if !reached[a] {
			reached[a] = true
			waiting = append(waiting, a)
		}
	}
	for _, a := range roots {
		if address(h, a) {
			reach(a)
		}
	}
	for len(waiting) > 0 {
		last := len(waiting) - 1
		a := waiting[last]
		waiting = waiting[:last]
		c := h.Cells[a]
		if c.Kind == api.Ref {
			reach(c.N)
		}
		for i := range args(c) {
			reach(a + 1 + i)
		}
	}
	return reached, api.OK
}

// Collect removes all cells that are not reachable from roots. It returns where roots, tops and marks are then.
func Collect(h api.Heap, roots, tops, marks []int) (api.Heap, []int, []int, []int, api.Errno) {
	reached, errno := Marks(h, roots)
	if errno != api.OK {
		return h, nil, nil, nil, errno
	}
	for _, a := range roots {
		if !address(h, a) {
			return h, nil, nil, nil, api.ErrNone
		}
	}
	kept := make([]bool, len(h.Trail))
	for i, a := range h.Trail {
		kept[i] = reached[a]
	}
	// The number of cells that remain before a reachable one is its new address.
	cells, trail := sums(reached), sums(kept)
	rest := api.Heap{Cells: keepCells(h.Cells, reached, cells), Trail: keepTrail(h.Trail, kept, cells)}
	return rest, counts(cells, roots), counts(cells, tops), counts(trail, marks), api.OK
}

// sums returns how many of the first n elements of l are true, for each n from 0 to its length.
func sums(l []bool) []int {
	out := make([]int, len(l)+1)
	for i, b := range l {
		out[i+1] = out[i]
		if b {
			out[i+1]++
		}
	}
	return out
}

// counts returns the sum before each index. An index outside of the list counts as its nearest end.
func counts(sums, indices []int) []int {
	out := make([]int, len(indices))
	for i, n := range indices {
		out[i] = sums[min(max(n, 0), len(sums)-1)]
	}
	return out
}

func keepCells(l []api.Cell, reached []bool, addresses []int) []api.Cell {
	var out []api.Cell
	for a, c := range l {
		if !reached[a] {
			continue
		}
		if c.Kind == api.Ref {
			c.N = addresses[c.N]
		}
		out = append(out, c)
	}
	return out
}

func keepTrail(l []int, kept []bool, addresses []int) []int {
	var out []int
	for i, a := range l {
		if kept[i] {
			out = append(out, addresses[a])
		}
	}
	return out
}
