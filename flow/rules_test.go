package flow_test

import (
	"reflect"
	"slices"
	"sync"
	"testing"

	"billhook/flow"
	"billhook/tree"
)

const sample = `x = 1; while (x) { if (x) { break; x = 4; } else { continue; } l[x] = 2; return x; }
	if (x) { return 1; } while (x) { } @4 x = read(); if (x) { while (x) { continue; } } else { assert(x); } x = f(x);`

// roomy is the same list with spare room behind it.
func roomy[T any](l []T) []T {
	return append(make([]T, 0, len(l)+9), l...)
}

// roomyStmts have spare room behind each list.
func roomyStmts(l []tree.Stmt) []tree.Stmt {
	l = roomy(l)
	for i, s := range l {
		l[i].E, l[i].Body, l[i].Else = roomy(s.E), roomyStmts(s.Body), roomyStmts(s.Else)
	}
	return l
}

// bare tells whether nothing was written behind any of these lists.
func bare(l []tree.Stmt) bool {
	for _, s := range l {
		if !reflect.DeepEqual(s.E[len(s.E):cap(s.E)], make([]tree.Expr, cap(s.E)-len(s.E))) || !bare(s.Body) || !bare(s.Else) {
			return false
		}
	}
	return reflect.DeepEqual(l[len(l):cap(l)], make([]tree.Stmt, cap(l)-len(l)))
}

// TestArgumentsStay: P3, nothing that is handed in is written into, nor what
// stands behind it in its array.
func TestArgumentsStay(t *testing.T) {
	l := roomyStmts(stmts(t, sample))
	want := roomyStmts(stmts(t, sample))
	g := flow.Of(l)
	kept := flow.Of(want)
	for i, to := range g.Next {
		g.Next[i] = roomy(to)
	}
	g.Next, g.Other, g.In = roomy(g.Next), roomy(g.Other), roomy(g.In)
	for range 2 {
		flow.Flat(l)
		flow.Of(l)
		flow.Edges(g, false)
		flow.Edges(g, true)
		flow.Back(g.Next)
	}
	if !reflect.DeepEqual(l, want) || !same(g, kept) {
		t.Error("written into")
	}
	if !bare(l) || !reflect.DeepEqual(g.Next[len(g.Next):cap(g.Next)], make([][]int, 9)) {
		t.Error("written behind lists")
	}
	for _, to := range append(g.Next, g.Other, g.In) {
		if !slices.Equal(to[len(to):cap(to)], make([]int, cap(to)-len(to))) {
			t.Error("written behind numbers")
		}
	}
}

// spoil writes into a list, and into its spare room.
func spoil[T any](l []T, x T) {
	l = l[:cap(l)]
	for i := range l {
		l[i] = x
	}
}

// apart fails, if two of these lists share memory; they are spoilt.
func apart(t *testing.T, what string, l [][]int) {
	t.Helper()
	kept := [][]int{}
	for _, x := range l {
		kept = append(kept, slices.Clone(x))
	}
	for i, x := range l {
		spoil(x, -7)
		if !sameLists(l[i+1:], kept[i+1:]) {
			t.Errorf("%s: list %d shares memory with one behind it", what, i)
		}
		spoil(x[len(x):], -8)
		if i > 0 && slices.Contains(l[i-1], -8) {
			t.Errorf("%s: list %d shares memory with one ahead of it", what, i)
		}
	}
}

// TestAnswersApart: P3, an answer is new memory, spare room too: no two lists
// share any, and none is kept, nor any argument.
func TestAnswersApart(t *testing.T) {
	l := stmts(t, sample)
	g, want := flow.Of(l), flow.Of(l)
	for _, jumps := range []bool{false, true} {
		next := flow.Edges(g, jumps)
		kept := flow.Edges(g, jumps)
		apart(t, "Back", flow.Back(next))
		if !sameLists(next, kept) {
			t.Error("what Back tells shares memory with what was handed in")
		}
		apart(t, "Edges", next)
		spoil(next, nil)
		if !same(g, want) {
			t.Error("what Edges tells shares memory with what was handed in")
		}
		if !sameLists(flow.Edges(g, jumps), kept) {
			t.Error("an answer was kept")
		}
	}
	apart(t, "Of", append(slices.Clone(g.Next), g.Other, g.In))
	spoil(g.Next, nil)
	if !same(flow.Of(l), want) {
		t.Error("an answer was kept")
	}
	flat := flow.Flat(l)
	spoil(flat, tree.Stmt{Kind: 99})
	if !reflect.DeepEqual(l, stmts(t, sample)) {
		t.Error("what Flat tells is what was handed in")
	}
	alone := stmts(t, "x = 1; x = 2;")
	spoil(flow.Flat(alone), tree.Stmt{Kind: 99})
	if !reflect.DeepEqual(alone, stmts(t, "x = 1; x = 2;")) {
		t.Error("what Flat tells is the list that was handed in")
	}
}

// TestSpareRoom: P3, Edges of lists with spare room, which others may use.
func TestSpareRoom(t *testing.T) {
	room := []int{1, 2, 3, 4, 5, 6}
	g := flow.Graph{Next: [][]int{room[:0], room[:2], room[2:3], room[3:3]}, Other: []int{7, 8, 9, 7}}
	next := flow.Edges(g, true)
	if got := lists(next); got != "[7] [1,2,8] [3,9] [7]" {
		t.Errorf("tells %s", got)
	}
	apart(t, "Edges", next)
	apart(t, "Edges", flow.Edges(g, false))
	if list(room) != "1,2,3,4,5,6" {
		t.Errorf("written into: %v", room)
	}
}

// TestSameAnswers: P4, answers hang on arguments alone, whoever else calls.
func TestSameAnswers(t *testing.T) {
	l := stmts(t, sample)
	g, flat := flow.Of(l), flow.Flat(l)
	next := flow.Edges(g, true)
	turned := flow.Back(next)
	var done sync.WaitGroup
	for range 8 {
		done.Go(func() {
			for range 200 {
				flow.Of(l[1:])
				if !same(flow.Of(l), g) || !reflect.DeepEqual(flow.Flat(l), flat) || !sameLists(flow.Edges(g, true), next) || !sameLists(flow.Back(next), turned) {
					t.Error("another answer")
				}
			}
		})
	}
	done.Wait()
}

// TestDeepTrees: P1, statements as deep as the limits allow, in a Body and in
// an Else, of kinds that go on in different ways.
func TestDeepTrees(t *testing.T) {
	const deep = 99990
	for _, kind := range []int{-1, tree.If, tree.While, tree.Break} {
		body, other := block(of(tree.Break)), block(of(tree.Continue))
		for range deep {
			body = block(with(kind, body, nil))
			other = block(of(tree.Return), with(kind, nil, other), of(tree.Assert))
		}
		for _, l := range [][]tree.Stmt{body, other} {
			flat, g := flow.Flat(l), flow.Of(l)
			if len(flat) != tree.Count(l) || len(g.Next) != len(flat)+1 || len(g.Other) != len(g.Next) || len(g.In) != len(g.Next) {
				t.Fatalf("kind %d: %d statements, %d nodes", kind, len(flat), len(g.Next))
			}
			next := flow.Edges(g, true)
			if len(next) != len(g.Next) || len(flow.Back(next)) != len(g.Next) {
				t.Errorf("kind %d: %d nodes, and %d with edges", kind, len(g.Next), len(next))
			}
		}
		g := flow.Of(body)
		leave, follows := deep+1, deep+1
		if kind == tree.While {
			leave, follows = deep-2, deep-1
		}
		if !slices.Equal(g.Next[deep], []int{leave}) || g.Other[deep] != follows || g.In[deep] != deep-1 {
			t.Errorf("kind %d: the innermost goes to %v, and is followed by %d", kind, g.Next[deep], g.Other[deep])
		}
	}
}

// TestManyStmts: P1, lists as long as they come.
func TestManyStmts(t *testing.T) {
	const many = 300000
	l := slices.Repeat(block(with(tree.If, block(of(tree.Assign)), block(of(tree.Return)))), many)
	g := flow.Of(l)
	if len(g.Next) != 3*many+1 || len(flow.Flat(l)) != 3*many {
		t.Fatalf("%d nodes", len(g.Next))
	}
	for i := 0; i < 3*many; i += 3 {
		if !slices.Equal(g.Next[i], []int{i + 1, i + 2}) || !slices.Equal(g.Next[i+1], []int{i + 3}) || !slices.Equal(g.Next[i+2], []int{3 * many}) || g.Other[i+2] != i+3 {
			t.Fatalf("of %d: %v", i, g.Next[i:i+3])
		}
	}
	if l := flow.Back(g.Next)[3*many]; len(l) != many+1 || !slices.IsSorted(l) {
		t.Errorf("%d come to Exit", len(l))
	}
}
