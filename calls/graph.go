package calls

import (
	"cmp"
	"slices"
)

// step is a Func that is being gone through, and those of its calls that have
// not been looked at.
type step struct {
	at   int
	left []int
}

// walker goes by calls from Func to Func, to none twice. It keeps its path in
// a list: a program that was not checked may call deeper than a stack is.
type walker struct {
	next [][]int
	seen []bool
	path []step
}

func newWalker(next [][]int) *walker {
	return &walker{next: next, seen: make([]bool, len(next))}
}

// visit tells what it comes to from i, and has not seen before, each behind
// those that it came to by way of that one.
func (w *walker) visit(i int) (left []int) {
	w.enter(i)
	for len(w.path) > 0 {
		last := &w.path[len(w.path)-1]
		if len(last.left) == 0 {
			left = append(left, last.at)
			w.path = w.path[:len(w.path)-1]
			continue
		}
		to := last.left[0]
		last.left = last.left[1:]
		w.enter(to)
	}
	return left
}

func (w *walker) enter(i int) {
	if !w.seen[i] {
		w.seen[i] = true
		w.path = append(w.path, step{i, w.next[i]})
	}
}

// back turns all calls round.
func back(next [][]int) [][]int {
	told := make([][]int, len(next))
	for i, l := range next {
		for _, to := range l {
			told[to] = append(told[to], i)
		}
	}
	return told
}

// comesTo tells of each whether it is such, or comes to one that is.
func comesTo(next [][]int, such func(i int) bool) []bool {
	w := newWalker(back(next))
	for i := range next {
		if such(i) {
			w.visit(i)
		}
	}
	return w.seen
}

// components goes back from the ones that were left last: what comes to one of
// them, and was left ahead of it, is come to from it too.
func components(next [][]int) (told [][]int) {
	var left []int
	ahead := newWalker(next)
	for i := range next {
		left = append(left, ahead.visit(i)...)
	}
	behind := newWalker(back(next))
	for _, i := range slices.Backward(left) {
		if l := behind.visit(i); len(l) > 0 {
			slices.Sort(l)
			told = append(told, l)
		}
	}
	slices.SortFunc(told, func(a, b []int) int { return cmp.Compare(a[0], b[0]) })
	return told
}

// recurring tells of each whether one comes back to it.
func recurring(next [][]int) []bool {
	told := make([]bool, len(next))
	for _, l := range components(next) {
		again := len(l) > 1 || slices.Contains(next[l[0]], l[0])
		for _, i := range l {
			told[i] = again
		}
	}
	return told
}
