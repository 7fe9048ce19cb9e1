package dom_test

import (
	"slices"
)

// The oracle goes by the words of the chapter: it follows ways, and holds each
// node against each.

// node tells whether n is one of next.
func node(next [][]int, n int) bool { return 0 <= n && n < len(next) }

// comes tells of each node whether one comes to it from one of from, of which
// some may be none, by edges alone that do not touch that node, if it is one.
func comes(next [][]int, without int, from ...int) []bool {
	told := make([]bool, len(next))
	for _, n := range from {
		if node(next, n) && n != without {
			told[n] = true
		}
	}
	for more := true; more; {
		more = false
		for n, l := range next {
			for _, m := range l {
				if told[n] && node(next, m) && m != without && !told[m] {
					told[m], more = true, true
				}
			}
		}
	}
	return told
}

// ways are those from n to Exit that pass no node twice: each other one passes
// all that one of these does.
func ways(next [][]int, n int, way []int) (told [][]int) {
	if !node(next, n) || slices.Contains(way, n) {
		return nil
	}
	way = append(slices.Clone(way), n)
	if n == len(next)-1 {
		return [][]int{way}
	}
	for _, m := range next[n] {
		told = append(told, ways(next, m, way)...)
	}
	return told
}

// postByWays says what P10.1 asks of Post, of graphs that are small.
func postByWays(next [][]int) [][]bool {
	told := make([][]bool, len(next))
	for n := range next {
		all := ways(next, n, nil)
		for d := range next {
			missed := slices.ContainsFunc(all, func(way []int) bool { return !slices.Contains(way, d) })
			told[n] = append(told[n], !missed)
		}
	}
	return told
}

// post says what P10.1 asks of Post.
func post(next [][]int) [][]bool {
	told := make([][]bool, len(next))
	for n := range next {
		for d := range next {
			told[n] = append(told[n], !comes(next, d, n)[len(next)-1])
		}
	}
	return told
}

// least says what P10.2 asks of Least, where post is what Post tells.
func least(next [][]int, post [][]bool) []int {
	told := []int{}
	for n := range next {
		told = append(told, -1)
		if !comes(next, -1, n)[len(next)-1] {
			continue
		}
		for d := len(next) - 1; d >= 0; d-- {
			if d != n && post[n][d] && afterAll(post, n, d) {
				told[n] = d
			}
		}
	}
	return told
}

// afterAll tells whether all others but n that postdominate n postdominate d.
func afterAll(post [][]bool, n, d int) bool {
	for other := range post {
		if other != d && other != n && post[n][other] && !post[d][other] {
			return false
		}
	}
	return true
}

// control says what P10.3 asks of Control, where post is what Post tells.
func control(next [][]int, post [][]bool) [][]int {
	told := make([][]int, len(next))
	for n := range next {
		for p, l := range next {
			to := func(m int) bool { return node(next, m) && post[m][n] }
			if slices.ContainsFunc(l, to) && (!post[p][n] || n == p) {
				told[n] = append(told[n], p)
			}
		}
	}
	return told
}
