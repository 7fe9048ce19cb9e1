package eval

import (
	"billhook/api"
	"billhook/tree"
	"billhook/word"
)

// reckoning is how right expressions of one kind are reckoned.
type reckoning func(e *Env, x tree.Expr) (int64, api.Trap)

// reckonings lists them by their kinds.
func reckonings() [5]reckoning {
	return [...]reckoning{
		tree.Num:    (*Env).number,
		tree.Var:    (*Env).variable,
		tree.Index:  (*Env).index,
		tree.Unary:  (*Env).unary,
		tree.Binary: (*Env).binary,
	}
}

// reckon takes it that x is right: Eval asks it once of all that is below.
func (e *Env) reckon(x tree.Expr) (int64, api.Trap) {
	return reckonings()[x.Kind](e, x)
}

func (e *Env) number(x tree.Expr) (int64, api.Trap) {
	return x.N, api.None
}

func (e *Env) variable(x tree.Expr) (int64, api.Trap) {
	n, _ := e.Get(x.Name)
	return n, api.None
}

func (e *Env) index(x tree.Expr) (int64, api.Trap) {
	i, trap := e.reckon(x.Kids[0])
	if trap != api.None {
		return 0, trap
	}
	n, ok := e.At(x.Name, i)
	if !ok {
		return 0, api.Bounds
	}
	return n, api.None
}

func (e *Env) unary(x tree.Expr) (int64, api.Trap) {
	a, trap := e.reckon(x.Kids[0])
	if trap != api.None {
		return 0, trap
	}
	n, _ := word.Unary(x.Op, a)
	return n, api.None
}

func (e *Env) binary(x tree.Expr) (int64, api.Trap) {
	a, trap := e.reckon(x.Kids[0])
	if trap != api.None {
		return 0, trap
	}
	if n, decided := alone(x.Op, a); decided {
		return n, api.None
	}
	b, trap := e.reckon(x.Kids[1])
	if trap != api.None {
		return 0, trap
	}
	return word.Binary(x.Op, a, b)
}

// alone tells what a op anything is, where a alone decides that.
func alone(op string, a int64) (n int64, decided bool) {
	switch {
	case op == "&&" && a == 0:
		return 0, true
	case op == "||" && a != 0:
		return 1, true
	}
	return 0, false
}
