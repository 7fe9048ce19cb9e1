package run

import "billhook/tree"

// node is a statement with its number in its Func, so that nothing has to be
// counted as it runs. What runs are body and other: the Stmt's own Body and
// Else have no numbers.
type node struct {
	tree.Stmt
	number      int
	body, other []node
}

// numbered tells the nodes of l, from the number first on, and the number
// behind all of them.
func numbered(l []tree.Stmt, first int) (nodes []node, next int) {
	nodes, next = make([]node, len(l)), first
	for i, s := range l {
		n := &nodes[i]
		n.Stmt, n.number = s, next
		n.body, next = numbered(s.Body, next+1)
		n.other, next = numbered(s.Else, next)
	}
	return nodes, next
}
