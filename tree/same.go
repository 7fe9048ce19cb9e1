package tree

import "slices"

// A list that is nil is held to be the same as one that is empty, by what
// package slices tells.

func (e Expr) same(o Expr) bool {
	return e.Kind == o.Kind && e.Op == o.Op && e.N == o.N && e.Name == o.Name &&
		slices.EqualFunc(e.Kids, o.Kids, Expr.same)
}

func (s Stmt) same(o Stmt) bool {
	return s.Kind == o.Kind && s.Tag == o.Tag && s.Name == o.Name && s.Func == o.Func &&
		slices.EqualFunc(s.E, o.E, Expr.same) && sameBlock(s.Body, o.Body) && sameBlock(s.Else, o.Else)
}

func sameBlock(a, b []Stmt) bool {
	return slices.EqualFunc(a, b, Stmt.same)
}

func (f Func) same(o Func) bool {
	return f.Name == o.Name && slices.Equal(f.Params, o.Params) && slices.Equal(f.Vars, o.Vars) && sameBlock(f.Body, o.Body)
}
