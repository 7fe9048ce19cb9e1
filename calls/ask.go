package calls

import (
	"slices"

	"billhook/tree"
)

// withEach does the same with each of l, and with all that stand below.
func withEach(l []tree.Stmt, do func(s tree.Stmt)) {
	for _, s := range l {
		do(s)
		withEach(s.Body, do)
		withEach(s.Else, do)
	}
}

// kind is one of the kinds of statements.
type kind int

func (k kind) is(s tree.Stmt) bool { return s.Kind == int(k) }

// has tells whether one of l, or of those below, is such.
func has(l []tree.Stmt, such func(s tree.Stmt) bool) (found bool) {
	withEach(l, func(s tree.Stmt) { found = found || such(s) })
	return found
}

// inquiry is asked of a program's Funcs, by their numbers.
type inquiry struct {
	prog   tree.Prog
	recurs []bool
}

func (q inquiry) reads(i int) bool {
	return has(q.prog.Funcs[i].Body, kind(tree.Read).is)
}

// repeats tells whether the Func at i may do by itself what it did before.
func (q inquiry) repeats(i int) bool {
	return q.recurs[i] || has(q.prog.Funcs[i].Body, kind(tree.While).is)
}

// places tells of each name what Find of chapter 5 tells of it, in one pass: a
// program that was not checked may have any number of Funcs, and Find goes
// through them once a name.
func places(p tree.Prog) map[string]int {
	at := make(map[string]int, len(p.Funcs))
	for i, f := range slices.Backward(p.Funcs) {
		at[f.Name] = i
	}
	return at
}
