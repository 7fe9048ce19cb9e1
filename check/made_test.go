package check_test

import (
	"math/rand"
	"slices"
	"testing"

	"billhook/api"
	"billhook/check"
	"billhook/parse"
	"billhook/tree"
)

// maker makes programs that may run, by chance, and spoils them.
type maker struct {
	*rand.Rand
	funcs []tree.Func
	in    tree.Func
	main  bool
	tag   int
}

func pick[T any](m *maker, l ...T) T { return l[m.Intn(len(l))] }

func (m *maker) program() tree.Prog {
	*m = maker{Rand: m.Rand}
	for _, name := range []string{"f", "g", "h"}[:m.Intn(4)] {
		m.funcs = append(m.funcs, tree.Func{Name: name, Params: []string{"a", "b", "c"}[:m.Intn(4)], Vars: m.vars()})
	}
	m.funcs = append(m.funcs, tree.Func{Name: "main", Vars: m.vars()})
	for i := range m.funcs {
		m.in, m.main = m.funcs[i], i == len(m.funcs)-1
		m.funcs[i].Body = m.stmts(3, false)
	}
	return tree.Prog{Funcs: m.funcs}
}

func (m *maker) vars() []tree.Decl {
	l := []tree.Decl{{Name: "x"}, {Name: "k", Size: 1 + m.Intn(64)}, {Name: "y"}, {Name: "l", Size: 64}, {Name: "f"}}
	return l[:2+m.Intn(4)]
}

// name is a number's, or an array's.
func (m *maker) name(array bool) string {
	var l []string
	if !array {
		l = slices.Clone(m.in.Params)
	}
	for _, d := range m.in.Vars {
		if (d.Size > 0) == array {
			l = append(l, d.Name)
		}
	}
	return pick(m, l...)
}

func (m *maker) expr(deep int) tree.Expr {
	if deep == 0 || m.Intn(4) == 0 {
		if m.Intn(3) > 0 {
			return v(m.name(false))
		}
		return num(pick[int64](m, 0, 1, -1, high, low))
	}
	switch m.Intn(4) {
	case 0:
		return index(m.name(true), m.expr(deep-1))
	case 1:
		return un(pick(m, "-", "~", "!"), m.expr(deep-1))
	}
	return bin(m.expr(deep-1), pick(m, "+", "<", "&&", "*", "=="), m.expr(deep-1))
}

func (m *maker) stmts(deep int, looped bool) (l []tree.Stmt) {
	for range m.Intn(4) {
		s := m.stmt(deep, looped)
		if m.main && m.Intn(3) == 0 {
			m.tag++
			s.Tag = m.tag
		}
		l = append(l, s)
	}
	return l
}

func (m *maker) stmt(deep int, looped bool) tree.Stmt {
	switch kind := m.Intn(12); {
	case kind < 3 && deep > 0:
		return loop(m.expr(2), m.stmts(deep-1, true)...)
	case kind < 6 && deep > 0:
		return branch(m.expr(2), m.stmts(deep-1, looped), m.stmts(deep-1, looped))
	case kind < 8 && looped:
		return of(pick(m, tree.Break, tree.Continue))
	case kind == 8:
		return tree.Stmt{Kind: tree.Store, Name: m.name(true), E: []tree.Expr{m.expr(2), m.expr(2)}}
	case kind == 9 && len(m.funcs) > 1:
		f := pick(m, m.funcs[:len(m.funcs)-1]...)
		s := tree.Stmt{Kind: tree.Call, Name: m.name(false), Func: f.Name}
		for range f.Params {
			s.E = append(s.E, m.expr(2))
		}
		return s
	case kind == 10:
		return tree.Stmt{Kind: tree.Read, Name: m.name(false)}
	case kind == 11:
		return of(pick(m, tree.Return, tree.Assert), m.expr(2))
	}
	return tree.Stmt{Kind: tree.Assign, Name: m.name(false), E: []tree.Expr{m.expr(3)}}
}

// blocks lists all lists of statements.
func blocks(l *[]tree.Stmt) (all []*[]tree.Stmt) {
	all = append(all, l)
	for i := range *l {
		all = append(all, blocks(&(*l)[i].Body)...)
		if (*l)[i].Kind == tree.If {
			all = append(all, blocks(&(*l)[i].Else)...)
		}
	}
	return all
}

func exprs(e *tree.Expr) (all []*tree.Expr) {
	all = append(all, e)
	for i := range e.Kids {
		all = append(all, exprs(&e.Kids[i])...)
	}
	return all
}

// spoil does one thing that may make the program wrong.
func (m *maker) spoil(p *tree.Prog) {
	f := &p.Funcs[m.Intn(len(p.Funcs))]
	l := pick(m, blocks(&f.Body)...)
	i := m.Intn(len(*l) + 1)
	if len(*l) == 0 || m.Intn(8) == 0 {
		*l = slices.Insert(*l, i, pick(m, of(tree.Break), of(tree.Continue), of(tree.Return, v("y")), tree.Stmt{Kind: tree.Call, Name: "x", Func: "main"}))
		return
	}
	s := &(*l)[i%len(*l)]
	switch m.Intn(16) {
	case 0:
		s.Tag = m.Intn(9)
	case 1, 2:
		if s.Name != "" {
			s.Name = m.anyName()
		}
	case 3:
		if s.Func != "" {
			s.Func = m.anyName()
		}
	case 4:
		if s.Kind == tree.Call {
			s.E = append(s.E, v(m.anyName()))
		}
	case 5:
		f.Name = m.anyName()
	case 6:
		f.Params = append(f.Params, m.anyName())
	case 7:
		f.Vars = append(f.Vars, tree.Decl{Name: m.anyName(), Size: pick(m, 0, 0, 5, 64, 65)})
	case 8:
		f.Vars = slices.Delete(f.Vars, 0, 1)
	case 9:
		p.Funcs = append(p.Funcs, tree.Func{Name: m.anyName()})
	case 10:
		s.Kind = pick(m, tree.Assign, tree.Read, tree.Return, tree.Assert, tree.While, tree.If, tree.Call)
	default:
		if len(s.E) > 0 {
			e := pick(m, exprs(&s.E[m.Intn(len(s.E))])...)
			if e.Name != "" {
				e.Name = m.anyName()
			}
		}
	}
}

func (m *maker) anyName() string {
	return pick(m, "a", "b", "x", "x", "y", "k", "l", "f", "g", "main", "none")
}

// TestMade: P5.2 and P5.4, programs that were made to run, by chance.
func TestMade(t *testing.T) {
	m := &maker{Rand: rand.New(rand.NewSource(1))}
	for range 2000 {
		p := m.program()
		hold(t, p, api.OK, -1)
		again(t, p)
		for tag := -1; tag <= m.tag+1; tag++ {
			if e := check.Criterion(p, tag, []string{"x"}); (e == api.OK) != (tag >= 1 && tag <= m.tag) {
				t.Errorf("error %d of tag %d of %d", e, tag, m.tag)
			}
		}
	}
}

// again holds P5.4 against a program that is checked.
func again(t *testing.T, p tree.Prog) {
	t.Helper()
	s := tree.Put(p)
	if len(s) > api.MaxText {
		return
	}
	back, _, e := parse.Parse(s)
	if e == api.ErrDeep {
		return
	}
	if e != api.OK || !tree.Same(back, p) {
		t.Errorf("error %d of what was put:\n%s", e, s)
	}
	if e, where := check.Check(back); e != api.OK || where != -1 {
		t.Errorf("error %d at %d of what was parsed again:\n%s", e, where, s)
	}
}

// TestSpoilt: P5.2 and P5.4, programs that were spoilt, against the oracle.
func TestSpoilt(t *testing.T) {
	m := &maker{Rand: rand.New(rand.NewSource(2))}
	told := map[api.Errno]int{}
	for range 20000 {
		p := m.program()
		for range 1 + m.Intn(4) {
			m.spoil(&p)
		}
		e, where := judge(p)
		hold(t, p, e, where)
		if e == api.OK {
			again(t, p)
		}
		told[e]++
	}
	for _, e := range []api.Errno{api.OK, api.ErrArg, api.ErrBig, api.ErrName, api.ErrType, api.ErrJump, api.ErrTag, api.ErrCall} {
		if told[e] < 30 {
			t.Errorf("error %d was told %d times alone", e, told[e])
		}
	}
}

// TestHandmadeAgainstOracle: the oracle tells what is asked by hand, so that
// it is right where it is asked.
func TestHandmadeAgainstOracle(t *testing.T) {
	all := slices.Concat(faultsOfWhole(), faultsOfFunc("f", 0), faultsOfF(), faultsOfFunc("g", 1), faultsOfG(), faultsOfFunc("main", 2), faultsOfMain())
	for i, f := range all {
		p := parsed(t, sample)
		for _, each := range slices.Backward(all[i:]) {
			each.make(&p)
		}
		if e, where := judge(p); e != f.e || where != f.where {
			t.Errorf("fault %d: error %d at %d, not %d at %d", i, e, where, f.e, f.where)
		}
	}
	for _, p := range []tree.Prog{{}, many(3), many(16), parsed(t, sample)} {
		e, where := judge(p)
		hold(t, p, e, where)
	}
}
