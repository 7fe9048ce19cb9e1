package dom

import "slices"

// walk is a walk back from Exit by all edges, which goes on from what it found
// last. A node's place is how many were found ahead of it.
type walk struct {
	nodes []int // by their places
	from  []int // of each place the one it was found from
	place []int // of each node; none, if it was not found
}

// step is an edge that is yet to be gone by: back to a node, from a place.
type step struct{ node, from int }

func walkBack(next [][]int) *walk {
	w := &walk{place: slices.Repeat([]int{none}, len(next))}
	if len(next) == 0 {
		return w
	}
	turned := back(next)
	left := []step{{len(next) - 1, none}}
	for len(left) > 0 {
		s := left[len(left)-1]
		left = left[:len(left)-1]
		if w.place[s.node] != none {
			continue
		}
		at := w.take(s)
		for _, n := range turned[s.node] {
			left = append(left, step{n, at})
		}
	}
	return w
}

// take gives the node of s the place that is next.
func (w *walk) take(s step) int {
	at := len(w.nodes)
	w.place[s.node] = at
	w.nodes = append(w.nodes, s.node)
	w.from = append(w.from, s.from)
	return at
}

// uppers tells of each place that of the first other node that is on each way
// to Exit; none of Exit. It is the semi-NCA way of Georgiadis and Tarjan: that
// is also on each way from where the place was found from, or is that place
// itself, and it is the nearest of these that does not lie behind its start.
func (w *walk) uppers(next [][]int) []int {
	starts := w.starts(next)
	told := slices.Clone(w.from)
	for at, start := range starts {
		for told[at] > start {
			told[at] = told[told[at]]
		}
	}
	return told
}

// starts tells of each place the first one from which the walk could have come
// to it by places behind it alone (its semidominator).
func (w *walk) starts(next [][]int) []int {
	told := slices.Clone(w.from)
	c := chains{up: slices.Clone(w.from), first: make([]int, len(w.from))}
	for at := len(told) - 1; at > 0; at-- {
		for _, n := range next[w.nodes[at]] {
			if isNode(n, len(next)) && w.place[n] != none {
				told[at] = min(told[at], c.start(w.place[n], at))
			}
		}
		c.first[at] = told[at]
	}
	return told
}

// chains lead from each place up to Exit's. They are shortened as they are gone
// by, so that no long one is gone by often.
type chains struct {
	up    []int // of each place one that lies ahead of it on its chain
	first []int // the first start of those from it on that lie behind that
	path  []int // room for the places that are gone by in one go
}

// start tells the first start of the places from at on up that lie behind last;
// at itself, if it does not. All behind last must have their first already.
func (c *chains) start(at, last int) int {
	c.path = c.path[:0]
	for ; at > last; at = c.up[at] {
		c.path = append(c.path, at)
	}
	told := at
	for _, by := range slices.Backward(c.path) {
		told = min(told, c.first[by])
		c.up[by], c.first[by] = at, told
	}
	return told
}
