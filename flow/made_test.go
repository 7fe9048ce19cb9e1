package flow_test

import (
	"math/rand"
	"reflect"
	"slices"
	"testing"

	"billhook/api"
	"billhook/flow"
	"billhook/run"
	"billhook/tree"
)

// maker makes statements by chance: right ones, that jump out of a While only
// where they stand in one, and that may run in a main of the names x, y and k;
// or, if wrong, any.
type maker struct {
	*rand.Rand
	wrong bool
}

func pick[T any](m *maker, l ...T) T { return l[m.Intn(len(l))] }

func num(n int64) tree.Expr { return tree.Expr{Kind: tree.Num, N: n} }

func (m *maker) name() string { return pick(m, "x", "y", "k") }

func (m *maker) expr() tree.Expr {
	a := tree.Expr{Kind: tree.Var, Name: m.name()}
	return tree.Expr{Kind: tree.Binary, Op: pick(m, "<", ">", "+", "==", "&"), Kids: []tree.Expr{a, num(m.Int63n(4))}}
}

func (m *maker) stmts(deep int, looped bool) (l []tree.Stmt) {
	for range m.Intn(5) {
		if m.wrong {
			l = append(l, m.any(deep))
		} else {
			l = append(l, m.stmt(deep, looped))
		}
	}
	return l
}

func (m *maker) any(deep int) tree.Stmt {
	s := tree.Stmt{Kind: pick(m, tree.If, tree.While, tree.Break, tree.Continue, tree.Return, m.Intn(12)-1), Tag: m.Intn(9) - 2}
	if deep > 0 && m.Intn(2) > 0 {
		s.Body, s.Else = m.stmts(deep-1, false), m.stmts(deep-1, false)
	}
	return s
}

func (m *maker) stmt(deep int, looped bool) tree.Stmt {
	s := tree.Stmt{E: []tree.Expr{m.expr()}}
	switch kind := m.Intn(20); {
	case kind < 5 && deep > 0:
		s.Kind, s.Body, s.Else = tree.If, m.stmts(deep-1, looped), m.stmts(deep-1, looped)
	case kind < 9 && deep > 0:
		s.Kind, s.Body = tree.While, m.stmts(deep-1, true)
	case kind < 11 && looped:
		s.Kind, s.E = pick(m, tree.Break, tree.Continue), nil
	case kind == 11 && deep < 3:
		s.Kind = tree.Return
	case kind == 12:
		s.Kind = tree.Assert
	case kind < 16:
		s.Kind, s.Name, s.E = tree.Read, m.name(), nil
	default:
		s.Kind, s.Name = tree.Assign, m.name()
	}
	return s
}

// same holds two graphs; a list that is nil is one that is empty.
func same(a, b flow.Graph) bool {
	return sameLists(a.Next, b.Next) && slices.Equal(a.Other, b.Other) && slices.Equal(a.In, b.In)
}

func sameLists(a, b [][]int) bool {
	return slices.EqualFunc(a, b, slices.Equal[[]int])
}

// TestMade: P9.1 to P9.3, statements by chance, right and not, against the
// oracle.
func TestMade(t *testing.T) {
	m := &maker{Rand: rand.New(rand.NewSource(1))}
	large := 0
	for round := range 20000 {
		m.wrong = round%2 > 0
		l := m.stmts(round%4, false)
		var flat []tree.Stmt
		for _, s := range spots(nil, l, -1, false) {
			flat = append(flat, s.Stmt)
		}
		if got := flow.Flat(l); len(got)+len(flat) > 0 && !reflect.DeepEqual(got, flat) {
			t.Fatalf("%v\nis told flat as\n%v", l, got)
		}
		want := foretold(l)
		if got := flow.Of(l); !same(got, want) {
			t.Fatalf("%v\ntells\n%s; asked is\n%s", l, text(got), text(want))
		}
		for _, jumps := range []bool{false, true} {
			next := flow.Edges(want, jumps)
			if !sameLists(next, edges(want, jumps)) {
				t.Fatalf("%s\nhas, jumps %t, the edges %v", text(want), jumps, next)
			}
			if got := flow.Back(next); !sameLists(got, back(next)) {
				t.Fatalf("%v is told back as %v", next, got)
			}
		}
		if len(flat) > 20 {
			large++
		}
	}
	if large < 500 {
		t.Errorf("%d were large", large)
	}
}

// TestMadeGraphs: P9.3, lists of any numbers and of any lengths.
func TestMadeGraphs(t *testing.T) {
	m := &maker{Rand: rand.New(rand.NewSource(2))}
	numbers := func() (l []int) {
		for range m.Intn(6) {
			l = append(l, pick(m, m.Intn(9)-2, m.Intn(9)-2, m.Intn(9)-2, -1<<63, 1<<63-1, m.Int()))
		}
		return l
	}
	for range 20000 {
		g := flow.Graph{Other: numbers(), In: numbers()}
		for range m.Intn(7) {
			g.Next = append(g.Next, numbers())
		}
		for _, jumps := range []bool{false, true} {
			if got := flow.Edges(g, jumps); !sameLists(got, edges(g, jumps)) {
				t.Fatalf("%v\nhas, jumps %t, the edges %v", g, jumps, got)
			}
		}
		if got := flow.Back(g.Next); !sameLists(got, back(g.Next)) {
			t.Fatalf("%v is told back as %v", g.Next, got)
		}
	}
}

// TestWaysThrough: P9.4, of right statements, with jumps, one comes from each
// node to Exit, and from node 0 to each.
func TestWaysThrough(t *testing.T) {
	m := &maker{Rand: rand.New(rand.NewSource(3))}
	without := 0
	for round := range 10000 {
		l := m.stmts(round%5, round%2 > 0)
		if !tree.RightStmts(l) {
			t.Fatalf("made not right: %v", l)
		}
		g := flow.Of(l)
		next := flow.Edges(g, true)
		exit := len(next) - 1
		if slices.Contains(comesTo(next, 0), false) {
			t.Fatalf("%s\nhas nodes that one does not come to: %s", tree.PutStmts(l), text(g))
		}
		for from := range next {
			if !comesTo(next, from)[exit] {
				t.Fatalf("%s\nends for ever behind %d: %s", tree.PutStmts(l), from, text(g))
			}
		}
		if slices.Contains(comesTo(g.Next, 0), false) {
			without++
		}
	}
	if without < 1000 {
		t.Errorf("%d have ways by jumps alone", without)
	}
}

// TestRuns: P9.1 and P9.2, what comes on in a run of chapter 8 comes on by the
// edges of the graph, and ends at Exit.
func TestRuns(t *testing.T) {
	m := &maker{Rand: rand.New(rand.NewSource(4))}
	taken, ended := 0, 0
	for range 10000 {
		main := tree.Func{Name: "main", Vars: []tree.Decl{{Name: "x"}, {Name: "y"}, {Name: "k"}}, Body: m.stmts(4, false)}
		p := tree.Prog{Funcs: []tree.Func{main}}
		in := []int64{m.Int63n(4), m.Int63n(4), 1, 0, m.Int63n(4), 2, 3, m.Int63n(4)}
		seen, e := run.Visits(p, in, 100)
		result, e2 := run.Run(p, in, 100, 0)
		if e != api.OK || e2 != api.OK {
			continue // more statements than may run
		}
		g := flow.Of(main.Body)
		at := []int{}
		for _, v := range seen {
			at = append(at, v.Node)
		}
		switch result.Trap {
		case api.None:
			at = append(at, len(g.Next)-1)
			ended++
		case api.Fuel:
			at = append(at, result.Where)
		}
		if at[0] != 0 {
			t.Fatalf("%s\nbegins at %d", tree.Put(p), at[0])
		}
		for i, to := range at[1:] {
			if !slices.Contains(g.Next[at[i]], to) {
				t.Fatalf("%s\ngoes from %d to %d; told is %s", tree.Put(p), at[i], to, text(g))
			}
			taken++
		}
		if g := flow.Of(main.Body); len(flow.Flat(main.Body)) != len(g.Next)-1 {
			t.Fatalf("%s\nis numbered in two ways", tree.Put(p))
		}
	}
	if taken < 50000 || ended < 3000 {
		t.Errorf("%d edges were gone by, %d runs ended", taken, ended)
	}
}
