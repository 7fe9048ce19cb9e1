package flow

import "billhook/tree"

// none stands where there is no node.
const none = -1

// place is how one goes on from where a statement stands.
type place struct {
	follows int // what follows it
	broken  int // what follows the innermost While it stands in
	again   int // that While
}

// node is a statement, with the numbers of what stands about it.
type node struct {
	tree.Stmt
	place
	behind int // the one behind it in its list, or none
	other  int // the first one of its Else, if it has one
}

// builder makes the graph of its nodes.
type builder struct {
	Graph
	nodes []node
}

// newBuilder has all of l numbered, and nothing else known of them.
func newBuilder(l []tree.Stmt) *builder {
	b := new(builder)
	b.list(l, none)
	return b
}

// list numbers l, which stands in that node, and all that stand below.
func (b *builder) list(l []tree.Stmt, in int) {
	for i, s := range l {
		at := len(b.nodes)
		b.nodes = append(b.nodes, node{Stmt: s, behind: none})
		b.In = append(b.In, in)
		b.list(s.Body, at)
		b.nodes[at].other = len(b.nodes)
		b.list(s.Else, at)
		if i < len(l)-1 {
			b.nodes[at].behind = len(b.nodes)
		}
	}
}

// settle finds the place of a node. That of the node it stands in must be found
// already.
func (b *builder) settle(at int) {
	n := &b.nodes[at]
	n.place = b.end(b.In[at])
	if n.behind != none {
		n.follows = n.behind
	}
}

// end tells the place of what stands last in that node.
func (b *builder) end(in int) place {
	if in == none {
		exit := len(b.nodes)
		return place{follows: exit, broken: exit, again: exit}
	}
	n := b.nodes[in]
	if n.Kind == tree.While {
		return place{follows: in, broken: n.follows, again: in}
	}
	return n.place
}

// draw draws the edges from a node whose place was found.
func (b *builder) draw(at int) {
	n := &b.nodes[at]
	edges := func(to ...int) {
		b.Next[at] = append(b.Next[at], to...)
	}
	jump := func(to ...int) {
		edges(to...)
		b.Other[at] = n.follows
	}
	switch n.Kind {
	case tree.If:
		edges(first(n.Body, at+1, n.follows), first(n.Else, n.other, n.follows))
	case tree.While:
		edges(first(n.Body, at+1, at), n.follows)
	case tree.Break:
		jump(n.broken)
	case tree.Continue:
		jump(n.again)
	case tree.Return:
		jump(len(b.nodes))
	default:
		edges(n.follows)
	}
}

// first tells where one comes to by a list that begins there.
func first(l []tree.Stmt, begins, without int) int {
	if len(l) > 0 {
		return begins
	}
	return without
}
