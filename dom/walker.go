package dom

// walker goes from node to node, to none twice. It keeps those it has yet to
// go on from in a list: there may be more nodes than a stack is deep.
type walker struct {
	seen []bool
	left []int
}

// find takes up those of these that are nodes, and that it has not seen yet.
func (w *walker) find(nodes ...int) {
	for _, n := range nodes {
		if isNode(n, len(w.seen)) && !w.seen[n] {
			w.seen[n] = true
			w.left = append(w.left, n)
		}
	}
}

func isNode(n, many int) bool { return n >= 0 && n < many }

// back turns all edges round. What is no node has none.
func back(next [][]int) [][]int {
	told := make([][]int, len(next))
	for from, l := range next {
		for _, n := range l {
			if isNode(n, len(next)) {
				told[n] = append(told[n], from)
			}
		}
	}
	return told
}
