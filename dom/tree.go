package dom

import "slices"

// tree has of each node what Least tells of it. What postdominates a node from
// which there is a way to Exit is that node, what the tree has of it, what it
// has of that, and so on: Exit is its root.
type tree []int

func newTree(next [][]int) tree {
	t := tree(slices.Repeat([]int{none}, len(next)))
	w := walkBack(next)
	for at, up := range w.uppers(next) {
		if up != none {
			t[w.nodes[at]] = w.nodes[up]
		}
	}
	return t
}

// lost tells whether n is a node from which there is no way to Exit.
func (t tree) lost(n int) bool {
	return isNode(n, len(t)-1) && t[n] == none
}

// passed tells of all nodes whether they postdominate n.
func (t tree) passed(n int) []bool {
	if t.lost(n) {
		return slices.Repeat([]bool{true}, len(t))
	}
	told := make([]bool, len(t))
	for d := n; d != none; d = t[d] {
		told[d] = true
	}
	return told
}
