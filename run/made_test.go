package run_test

import (
	"math/rand"
	"reflect"
	"slices"
	"testing"

	"billhook/api"
	"billhook/run"
	"billhook/tree"
)

func num(n int64) tree.Expr { return tree.Expr{Kind: tree.Num, N: n} }

func v(name string) tree.Expr { return tree.Expr{Kind: tree.Var, Name: name} }

func bin(a tree.Expr, op string, b tree.Expr) tree.Expr {
	return tree.Expr{Kind: tree.Binary, Op: op, Kids: []tree.Expr{a, b}}
}

func block(l ...tree.Stmt) []tree.Stmt { return l }

func of(kind int, l ...tree.Expr) tree.Stmt { return tree.Stmt{Kind: kind, E: l} }

func set(name string, x tree.Expr) tree.Stmt {
	return tree.Stmt{Kind: tree.Assign, Name: name, E: []tree.Expr{x}}
}

func prog(l ...tree.Func) tree.Prog { return tree.Prog{Funcs: l} }

// maker makes programs that may run, by chance. Each Func has the numbers x, y
// and k, where none is a param, and the arrays l and m.
type maker struct {
	*rand.Rand
	funcs []tree.Func
	main  bool
	tag   int
}

func pick[T any](m *maker, l ...T) T { return l[m.Intn(len(l))] }

func (m *maker) program() tree.Prog {
	*m = maker{Rand: m.Rand}
	for _, name := range []string{"f", "g", "h"}[:m.Intn(4)] {
		params := []string{"y", "k"}[:m.Intn(3)]
		m.funcs = append(m.funcs, tree.Func{Name: name, Params: params, Vars: m.vars(params)})
	}
	m.funcs = append(m.funcs, tree.Func{Name: "main", Vars: m.vars(nil)})
	for i := range m.funcs {
		m.main = i == len(m.funcs)-1
		m.funcs[i].Body = m.stmts(3, false)
	}
	return tree.Prog{Funcs: m.funcs}
}

func (m *maker) vars(params []string) (l []tree.Decl) {
	for _, name := range []string{"x", "y", "k"} {
		if !slices.Contains(params, name) {
			l = append(l, tree.Decl{Name: name})
		}
	}
	l = append(l, tree.Decl{Name: "l", Size: 1 + m.Intn(5)}, tree.Decl{Name: "m", Size: pick(m, 1, 2, 8, 64)})
	m.Shuffle(len(l), func(i, k int) { l[i], l[k] = l[k], l[i] })
	return l
}

func (m *maker) name() string { return pick(m, "x", "y", "k") }

func (m *maker) expr(deep int) tree.Expr {
	if deep == 0 || m.Intn(4) == 0 {
		if m.Intn(3) > 0 {
			return v(m.name())
		}
		return num(pick[int64](m, 0, 1, 1, 2, 3, 5, -1, high, low))
	}
	switch m.Intn(9) {
	case 0:
		return tree.Expr{Kind: tree.Index, Name: pick(m, "l", "m"), Kids: []tree.Expr{m.index(deep - 1)}}
	case 1:
		return tree.Expr{Kind: tree.Unary, Op: pick(m, "-", "~", "!"), Kids: []tree.Expr{m.expr(deep - 1)}}
	case 2:
		return bin(m.expr(deep-1), pick(m, "/", "%", "<<", ">>"), m.expr(deep-1))
	}
	return bin(m.expr(deep-1), pick(m, "+", "-", "<", "&&", "||", "*", "==", "!=", ">", "&"), m.expr(deep-1))
}

// index is mostly of an array.
func (m *maker) index(deep int) tree.Expr {
	if m.Intn(8) == 0 {
		return m.expr(deep)
	}
	return bin(v(m.name()), "&", num(pick[int64](m, 0, 0, 1, 3)))
}

func (m *maker) stmts(deep int, looped bool) (l []tree.Stmt) {
	for range m.Intn(5) {
		s := m.stmt(deep, looped)
		if m.main && m.Intn(3) == 0 {
			m.tag++
			s.Tag = m.tag
		}
		l = append(l, s)
	}
	return l
}

func (m *maker) stmt(deep int, looped bool) tree.Stmt {
	switch kind := m.Intn(24); {
	case kind < 5 && deep > 0:
		s := of(tree.While, m.test())
		s.Body = append(m.stmts(deep-1, true), set("k", bin(v("k"), "+", num(1))))
		return s
	case kind < 9 && deep > 0:
		s := of(tree.If, m.expr(2))
		s.Body, s.Else = m.stmts(deep-1, looped), m.stmts(deep-1, looped)
		return s
	case kind < 11 && looped:
		return of(pick(m, tree.Break, tree.Continue))
	case kind < 13:
		return tree.Stmt{Kind: tree.Store, Name: pick(m, "l", "m"), E: []tree.Expr{m.index(2), m.expr(2)}}
	case kind < 16 && len(m.funcs) > 1:
		f := pick(m, m.funcs[:len(m.funcs)-1]...)
		s := tree.Stmt{Kind: tree.Call, Name: m.name(), Func: f.Name}
		for range f.Params {
			s.E = append(s.E, m.expr(2))
		}
		return s
	case kind < 18:
		return tree.Stmt{Kind: tree.Read, Name: m.name()}
	case kind == 18:
		return of(tree.Assert, m.expr(2))
	case kind == 19 && deep < 3:
		return of(tree.Return, m.expr(2))
	}
	return set(m.name(), m.expr(3))
}

// test mostly holds for some rounds, and then no more.
func (m *maker) test() tree.Expr {
	if m.Intn(4) == 0 {
		return m.expr(2)
	}
	return bin(v("k"), "<", num(m.Int63n(6)))
}

func (m *maker) input() (l []int64) {
	for range m.Intn(6) {
		l = append(l, pick[int64](m, 0, 1, 2, 3, -1, high, low, m.Int63()))
	}
	return l
}

// asked is a tag of the program, or 0, and names.
func (m *maker) asked() (tag int, vars []string) {
	for range m.Intn(4) {
		vars = append(vars, m.name())
	}
	return m.Intn(m.tag + 1), vars
}

func sameVisits(a, b []run.Visit) bool {
	return len(a) == 0 && len(b) == 0 || reflect.DeepEqual(a, b)
}

// TestMade: P8.1 to P8.3, programs by chance, against the oracle.
func TestMade(t *testing.T) {
	m := &maker{Rand: rand.New(rand.NewSource(1))}
	ends := map[api.Trap]int{}
	kept, inside := 0, 0
	for range 20000 {
		p, in := m.program(), m.input()
		tag, vars := m.asked()
		fuel := pick(m, 0, 1, 2, 3, 5, 10, 20, 50, 200, 1000, 1000, 1000, 1000)
		want, visits := foretold(p, in, fuel, tag, vars)
		got, e := run.Run(p, in, fuel, tag, vars...)
		hold(t, tree.Put(p), got, e, want)
		if got, e := run.Visits(p, in, fuel); e != api.OK || !sameVisits(got, visits) {
			t.Errorf("%s\nis visited so, error %d:\n%v, not\n%v", tree.Put(p), e, got, visits)
		}
		ends[want.Trap]++
		if len(want.Trace) > 0 && len(vars) > 0 {
			kept++
		}
		if want.Steps > len(visits) {
			inside++
		}
		if t.Failed() {
			return
		}
	}
	for trap := api.None; trap <= api.Fuel; trap++ {
		if ends[trap] < 200 {
			t.Errorf("trap %d was told %d times alone", trap, ends[trap])
		}
	}
	if kept < 1000 || inside < 1000 {
		t.Errorf("%d traces, %d calls", kept, inside)
	}
}

// TestMoreFuel: P8.4, with more fuel a run begins as it did; one that ended
// does not change.
func TestMoreFuel(t *testing.T) {
	m := &maker{Rand: rand.New(rand.NewSource(2))}
	ended := 0
	for range 1000 {
		p, in := m.program(), m.input()
		tag, vars := m.asked()
		before, _ := run.Run(p, in, 0, tag, vars...)
		seen, _ := run.Visits(p, in, 0)
		for fuel := range 60 {
			now, e := run.Run(p, in, fuel+1, tag, vars...)
			l, _ := run.Visits(p, in, fuel+1)
			if e != api.OK || !run.Begins(before.Trace, now.Trace) || len(seen) > len(l) || !sameVisits(seen, l[:len(seen)]) {
				t.Fatalf("%s\nwith fuel %d does not begin as with one less: %v, %v", tree.Put(p), fuel+1, now, before)
			}
			if before.Trap != api.Fuel && (!run.Same(before, now) || len(seen) != len(l)) {
				t.Fatalf("%s\nhad ended, and with fuel %d tells %v, not %v", tree.Put(p), fuel+1, now, before)
			}
			if before.Trap == api.Fuel && (before.Steps != fuel || before.Where < 0 || now.Steps < fuel) {
				t.Fatalf("%s\nwith fuel %d tells %v", tree.Put(p), fuel, before)
			}
			before, seen = now, l
		}
		if before.Trap != api.Fuel {
			ended++
		}
	}
	if ended < 200 || ended > 990 {
		t.Errorf("%d ended", ended)
	}
}
