package flow_test

import (
	"slices"

	"billhook/flow"
	"billhook/tree"
)

// The oracle finds for each statement its list, and looks for what follows it
// there, as often as it is asked.

// spot is where a statement stands: at that index of the Body, or the Else, of
// the node in, or of the outermost list.
type spot struct {
	tree.Stmt
	in, at int
	other  bool
}

// spots are those of l, by their numbers.
func spots(told []spot, l []tree.Stmt, in int, other bool) []spot {
	for at, s := range l {
		n := len(told)
		told = append(told, spot{s, in, at, other})
		told = spots(told, s.Body, n, false)
		told = spots(told, s.Else, n, true)
	}
	return told
}

// standing tells what stands there; what, if there is nothing.
func standing(l []spot, in, at int, other bool, what int) int {
	n := slices.IndexFunc(l, func(s spot) bool { return s.in == in && s.at == at && s.other == other })
	if n < 0 {
		return what
	}
	return n
}

// following tells what follows n.
func following(l []spot, n int) int {
	s := l[n]
	if k := standing(l, s.in, s.at+1, s.other, -1); k >= 0 {
		return k
	}
	if s.in < 0 {
		return len(l)
	}
	if l[s.in].Kind == tree.While {
		return s.in
	}
	return following(l, s.in)
}

// loop tells the innermost While that n stands in; -1, if there is none.
func loop(l []spot, n int) int {
	in := l[n].in
	for in >= 0 && l[in].Kind != tree.While {
		in = l[in].in
	}
	return in
}

// goes tells where one goes on from n.
func goes(l []spot, n int) []int {
	follows, around := following(l, n), loop(l, n)
	switch kind := l[n].Kind; {
	case kind == tree.If:
		return []int{standing(l, n, 0, false, follows), standing(l, n, 0, true, follows)}
	case kind == tree.While:
		return []int{standing(l, n, 0, false, n), follows}
	case kind == tree.Return, kind == tree.Break && around < 0, kind == tree.Continue && around < 0:
		return []int{len(l)}
	case kind == tree.Break:
		return []int{following(l, around)}
	case kind == tree.Continue:
		return []int{around}
	}
	return []int{follows}
}

// foretold says what P9.1 and P9.2 ask of any statements.
func foretold(stmts []tree.Stmt) (g flow.Graph) {
	l := spots(nil, stmts, -1, false)
	for n, s := range l {
		other := -1
		if s.Kind == tree.Break || s.Kind == tree.Continue || s.Kind == tree.Return {
			other = following(l, n)
		}
		g.Next, g.Other, g.In = append(g.Next, goes(l, n)), append(g.Other, other), append(g.In, s.in)
	}
	g.Next, g.Other, g.In = append(g.Next, nil), append(g.Other, -1), append(g.In, -1)
	return g
}

// back says what P9.3 asks of Back.
func back(next [][]int) [][]int {
	told := make([][]int, len(next))
	for n := range told {
		for from, l := range next {
			if slices.Contains(l, n) {
				told[n] = append(told[n], from)
			}
		}
	}
	return told
}

// edges says what P9.3 asks of Edges.
func edges(g flow.Graph, jumps bool) (told [][]int) {
	for n, l := range g.Next {
		to := append([]int{}, l...)
		if jumps && len(g.Other) > n && g.Other[n] > -1 {
			to = append(to, g.Other[n])
		}
		told = append(told, to)
	}
	return told
}

// comesTo tells of each node whether one comes to it from that one.
func comesTo(next [][]int, from int) []bool {
	seen := make([]bool, len(next))
	open := []int{from}
	for len(open) > 0 {
		n := open[0]
		open = open[1:]
		if !seen[n] {
			seen[n] = true
			open = append(open, next[n]...)
		}
	}
	return seen
}
