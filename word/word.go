// Package word is layer 1, numbers of 64 bits: see shared/doc/01-word.md.
package word

import (
	"strconv"

	"billhook/api"
)

// Binary reckons a op b: 0 beside a trap, and of any other op.
func Binary(op string, a, b int64) (int64, api.Trap) {
	o, ok := find(op)
	if !ok {
		return 0, api.None
	}
	if trap := o.trap(number(b)); trap != api.None {
		return 0, trap
	}
	return int64(o.work(number(a), number(b))), api.None
}

// Unary reckons op a: 0, and false, of any other op.
func Unary(op string, a int64) (int64, bool) {
	o, ok := findUnary(op)
	if !ok {
		return 0, false
	}
	return int64(o.work(number(a))), true
}

// Level tells how tightly op binds, from 1 on; 0 of any other text.
func Level(op string) int {
	o, _ := find(op)
	return o.level
}

// Ops lists the operations of two numbers, the loosest first.
func Ops() []string {
	return []string{
		"||", "&&", "|", "^", "&", "==", "!=", "<", "<=", ">", ">=",
		"<<", ">>", "+", "-", "*", "/", "%",
	}
}

// Text puts n in digits.
func Text(n int64) string {
	return strconv.FormatInt(n, 10)
}
