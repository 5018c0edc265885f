package run

import "querist/heap"

// collect removes the cells that are not reachable from the query's variables or from a goal that is pending now, or would be after going back to a choice point.
func (m *machine) collect() {
	var roots, tops, marks []int
	for v := range m.vars {
		roots = append(roots, v)
	}
	links := m.liveLinks()
	for _, i := range links {
		roots = append(roots, m.links[i].goal)
	}
	for _, c := range m.choices {
		tops = append(tops, c.cells)
		marks = append(marks, c.bound)
	}
	m.heap, roots, tops, marks, _ = heap.Collect(m.heap, roots, tops, marks)
	for k, i := range links {
		m.links[i].goal = roots[m.vars+k]
	}
	for i := range m.choices {
		m.choices[i].cells = tops[i]
		m.choices[i].bound = marks[i]
	}
}

// liveLinks returns the indices of the links in the list of pending goals and in those of the choice points. No other link is used again.
func (m *machine) liveLinks() []int {
	var live []int
	seen := make([]bool, len(m.links))
	add := func(i int) {
		// Lists that meet have the same end.
		for ; i != none && !seen[i]; i = m.links[i].next {
			seen[i] = true
			live = append(live, i)
		}
	}
	add(m.first)
	for _, c := range m.choices {
		add(c.at)
	}
	return live
}
