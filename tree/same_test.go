package tree_test

import (
	"math/rand"
	"reflect"
	"testing"

	"billhook/tree"
)

// changes does at each place of x, one after the other, each small change:
// another number, another text, a list that is longer or shorter, or has two
// things the other way round; it takes each back behind ask.
func changes(x reflect.Value, ask func()) {
	try := func(n reflect.Value) {
		was := reflect.ValueOf(x.Interface())
		x.Set(n)
		ask()
		x.Set(was)
	}
	switch x.Kind() {
	case reflect.Int, reflect.Int64:
		for _, by := range []int64{1, -1, low, 1 << 32} {
			try(reflect.ValueOf(x.Int() + by).Convert(x.Type()))
		}
	case reflect.String:
		for _, n := range []string{x.String() + "a", "a" + x.String(), x.String() + "\x00"} {
			try(reflect.ValueOf(n))
		}
		if x.Len() > 0 {
			try(reflect.ValueOf(x.String()[1:]))
			try(reflect.ValueOf(x.String()[:x.Len()-1]))
		}
	case reflect.Struct:
		for i := range x.NumField() {
			changes(x.Field(i), ask)
		}
	case reflect.Slice:
		try(reflect.Append(x.Slice3(0, x.Len(), x.Len()), reflect.Zero(x.Type().Elem())))
		if x.Len() > 0 {
			try(x.Slice(0, x.Len()-1))
			try(x.Slice(1, x.Len()))
		}
		for i := range x.Len() {
			changes(x.Index(i), ask)
		}
	}
}

// TestSameEachField: P3.1, a change of one field anywhere is told.
func TestSameEachField(t *testing.T) {
	p, q := program(), program()
	many := 0
	changes(reflect.ValueOf(&p).Elem(), func() {
		many++
		if tree.Same(p, q) || tree.Same(q, p) {
			t.Errorf("the same: %v", p)
		}
	})
	if !tree.Same(p, q) || many < 500 {
		t.Errorf("%d changes", many)
	}
	r := rand.New(rand.NewSource(4))
	for range 100 {
		seed := r.Int63()
		l, m := anyStmts(rand.New(rand.NewSource(seed)), 2), anyStmts(rand.New(rand.NewSource(seed)), 2)
		changes(reflect.ValueOf(&l).Elem(), func() {
			if tree.SameStmts(l, m) || tree.SameStmts(m, l) {
				t.Errorf("the same: %v", l)
			}
		})
		e, f := anyExpr(rand.New(rand.NewSource(seed)), 3), anyExpr(rand.New(rand.NewSource(seed)), 3)
		changes(reflect.ValueOf(&e).Elem(), func() {
			if tree.SameExpr(e, f) || tree.SameExpr(f, e) {
				t.Errorf("the same: %v", e)
			}
		})
		if !tree.SameStmts(l, m) || !tree.SameExpr(e, f) {
			t.Errorf("not the same: %v or %v", l, e)
		}
	}
}

// TestSameOrder: P3.1, lists are held against one another one by one.
func TestSameOrder(t *testing.T) {
	a, b := of(tree.Break), of(tree.Continue)
	if tree.SameStmts(block(a, b), block(b, a)) || tree.SameStmts(block(a), block(a, a)) || tree.SameStmts(block(branch(num(1), block(a), block(b))), block(branch(num(1), block(b), block(a)))) {
		t.Error("of statements")
	}
	if tree.SameExpr(bin(v("a"), "+", v("b")), bin(v("b"), "+", v("a"))) || tree.SameExpr(num(0), v("")) || tree.SameExpr(un("-", num(5)), num(-5)) {
		t.Error("of expressions")
	}
	f, g := tree.Func{Name: "f", Params: []string{"a", "b"}}, tree.Func{Name: "f", Params: []string{"b", "a"}}
	if tree.Same(tree.Prog{Funcs: []tree.Func{f}}, tree.Prog{Funcs: []tree.Func{g}}) || tree.Same(tree.Prog{Funcs: []tree.Func{f, g}}, tree.Prog{Funcs: []tree.Func{g, f}}) {
		t.Error("of functions")
	}
	if !tree.Same(tree.Prog{Funcs: []tree.Func{f, g}}, tree.Prog{Funcs: []tree.Func{f, g}}) {
		t.Error("of the same functions")
	}
}

// empty puts lists of nothing, that are not nil, in place of nil ones.
func empty(x reflect.Value) {
	switch x.Kind() {
	case reflect.Struct:
		for i := range x.NumField() {
			empty(x.Field(i))
		}
	case reflect.Slice:
		if x.IsNil() {
			x.Set(reflect.MakeSlice(x.Type(), 0, 0))
		}
		for i := range x.Len() {
			empty(x.Index(i))
		}
	}
}

// TestNilOrEmpty: P5, whether a list of nothing is nil is never to be seen.
func TestNilOrEmpty(t *testing.T) {
	r := rand.New(rand.NewSource(5))
	for k := range 300 {
		p := program()
		if k > 0 {
			p = rightProg(r)
		}
		seen := tree.Put(p)
		q := tree.Prog{Funcs: append([]tree.Func(nil), p.Funcs...)}
		for i := range q.Funcs {
			q.Funcs[i].Body = copied(q.Funcs[i].Body)
		}
		empty(reflect.ValueOf(&q).Elem())
		if !tree.Same(p, q) || !tree.Same(q, p) || !tree.Right(q) || tree.Put(q) != seen {
			t.Errorf("of empty lists: %s", seen)
		}
	}
}

// copied is l in memory of its own.
func copied(l []tree.Stmt) (told []tree.Stmt) {
	for _, s := range l {
		s.E = copiedExprs(s.E)
		s.Body, s.Else = copied(s.Body), copied(s.Else)
		told = append(told, s)
	}
	return told
}

func copiedExprs(l []tree.Expr) (told []tree.Expr) {
	for _, e := range l {
		e.Kids = copiedExprs(e.Kids)
		told = append(told, e)
	}
	return told
}

// TestSameCopies: P3.1, trees in memory of their own are the same just if Go
// holds them to be so.
func TestSameCopies(t *testing.T) {
	r := rand.New(rand.NewSource(6))
	for range 2000 {
		l := anyStmts(r, 2)
		if !tree.SameStmts(l, copied(l)) {
			t.Errorf("not the same: %v", l)
		}
		if m := anyStmts(r, 2); tree.SameStmts(l, m) != reflect.DeepEqual(copied(l), copied(m)) {
			t.Errorf("the same: %v and %v", l, m)
		}
	}
}
