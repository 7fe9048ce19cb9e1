package run_test

import (
	"reflect"
	"slices"
	"strings"
	"sync"
	"testing"

	"billhook/api"
	"billhook/eval"
	"billhook/run"
	"billhook/tree"
)

const sample = `func f(a) { var l[2], x; x = read(); l[1] = a + x; a = l[1]; return a; }
func main() {
	var x, y, l[3];
	while (x < 3) { @1 l[x] = y + 1; y = f(x); if (y > 3) { y = y - 2; } else { } x = x + 1; }
	assert(l[2]); x = 1 / (y - 4);
}`

// TestArgumentsStay: P3, nothing that is handed in is written into, nor what
// stands behind it in its array.
func TestArgumentsStay(t *testing.T) {
	p := parsed(t, sample)
	p.Funcs = append(make([]tree.Func, 0, 9), p.Funcs...)
	main := &p.Funcs[1]
	main.Body = append(make([]tree.Stmt, 0, 9), main.Body...)
	main.Vars = append(make([]tree.Decl, 0, 9), main.Vars...)
	in := append(make([]int64, 0, 9), 1, 2, 3, 4, 5)
	vars := append(make([]string, 0, 9), "x", "y")
	for range 2 {
		run.Run(p, in, 1000, 1, vars...)
		run.Run(p, in[:2], 1000, 1, vars[:1]...)
		run.Visits(p, in[:1], 1000)
	}
	if !reflect.DeepEqual(p, parsed(t, sample)) || !slices.Equal(in[:9], []int64{1, 2, 3, 4, 5, 0, 0, 0, 0}) || !slices.Equal(vars[:9], []string{"x", "y", "", "", "", "", "", "", ""}) {
		t.Error("written into")
	}
	if !reflect.DeepEqual(p.Funcs[2:9], make([]tree.Func, 7)) || !reflect.DeepEqual(main.Body[3:9], make([]tree.Stmt, 6)) || !reflect.DeepEqual(main.Vars[3:9], make([]tree.Decl, 6)) {
		t.Error("written behind lists")
	}
	a := append(make([][]int64, 0, 5), []int64{1}, nil)
	b := append(make([][]int64, 0, 5), []int64{1}, []int64{}, []int64{3})
	run.Begins(a, b)
	run.Begins(b, a)
	run.Same(run.Result{Trace: a}, run.Result{Trace: b})
	if !reflect.DeepEqual(a[:5], [][]int64{{1}, nil, nil, nil, nil}) || !reflect.DeepEqual(b[:5], [][]int64{{1}, {}, {3}, nil, nil}) {
		t.Error("traces are written into")
	}
}

// TestAnswersApart: P3, an answer is new memory, spare room too: no two lists
// share any, and none is kept, nor any argument.
func TestAnswersApart(t *testing.T) {
	p, in, vars := parsed(t, sample), []int64{1, 2, 3}, []string{"x", "y"}
	first, _ := run.Run(p, in, 1000, 1, vars...)
	again, _ := run.Run(p, in, 1000, 1, vars...)
	want := as(first)
	for i, row := range first.Trace {
		spoil(row, -7)
		if !reflect.DeepEqual(first.Trace[i+1:], again.Trace[i+1:]) {
			t.Errorf("row %d shares memory with one behind it", i)
		}
	}
	spoil(first.Trace, nil)
	seen, _ := run.Visits(p, in, 1000)
	l, _ := run.Visits(p, in, 1000)
	for i, visit := range seen {
		for k, cell := range visit.Cells {
			spoil(cell.V, -7)
			if !reflect.DeepEqual(visit.Cells[k+1:], l[i].Cells[k+1:]) || !reflect.DeepEqual(seen[i+1:], l[i+1:]) {
				t.Errorf("cell %d of visit %d shares memory with one behind it", k, i)
			}
		}
		spoil(visit.Cells, eval.Cell{Name: "?"})
		if !reflect.DeepEqual(seen[i+1:], l[i+1:]) {
			t.Errorf("visit %d shares memory with one behind it", i)
		}
	}
	spoil(seen, run.Visit{Node: 9})
	in[0], vars[0] = 99, "?"
	p.Funcs[1].Vars[0].Name, p.Funcs[1].Body[0].Tag = "?", 9
	fresh := parsed(t, sample)
	if got, e := run.Run(fresh, []int64{1, 2, 3}, 1000, 1, "x", "y"); e != api.OK || !reflect.DeepEqual(as(got), want) || !reflect.DeepEqual(as(again), want) {
		t.Error("an answer, or an argument, was kept")
	}
	if got, e := run.Visits(fresh, []int64{1, 2, 3}, 1000); e != api.OK || !reflect.DeepEqual(got, l) {
		t.Error("visits, or an argument, were kept")
	}
}

// spoil writes into a list, and into its spare room.
func spoil[T any](l []T, x T) {
	l = l[:cap(l)]
	for i := range l {
		l[i] = x
	}
}

// TestSameAnswers: P4, answers hang on arguments alone, whoever else calls.
func TestSameAnswers(t *testing.T) {
	p := parsed(t, sample)
	ask := func(k int) (run.Result, []run.Visit) {
		in := []int64{int64(k % 3), 2, int64(-k)}
		r, _ := run.Run(p, in, 5*k, 1, "y", "x")
		l, _ := run.Visits(p, in, 5*k)
		return r, l
	}
	var results []run.Result
	var visits [][]run.Visit
	for k := range 20 {
		r, l := ask(k)
		results, visits = append(results, r), append(visits, l)
	}
	var done sync.WaitGroup
	for range 8 {
		done.Go(func() {
			for range 50 {
				for k := range 20 {
					if r, l := ask(k); !run.Same(r, results[k]) || !sameVisits(l, visits[k]) {
						t.Errorf("another answer of %d", k)
					}
				}
			}
		})
	}
	done.Wait()
}

// TestDeepTrees: P1, trees as deep as the limits allow.
func TestDeepTrees(t *testing.T) {
	const deep = 99990
	sum, bad := num(1), tree.Expr{Kind: 9}
	for range deep {
		sum, bad = bin(sum, "+", num(1)), bin(num(1), "&&", bad)
	}
	x := []tree.Decl{{Name: "x"}}
	tagged := set("x", v("x"))
	tagged.Tag = 1
	p := prog(tree.Func{Name: "f", Body: block(of(tree.Return, sum))}, tree.Func{Name: "main", Vars: x, Body: block(tree.Stmt{Kind: tree.Call, Name: "x", Func: "f"}, tagged)})
	got, e := run.Run(p, nil, 10, 1, "x")
	hold(t, "a deep sum", got, e, run.Result{Steps: 3, Where: -1, Trace: rows(deep + 1)})
	refused(t, prog(tree.Func{Name: "main", Vars: x, Body: block(set("x", bad))}), 10, 0, nil, api.ErrArg)
	l := block(tagged)
	for range deep {
		l = block(tree.Stmt{Kind: tree.If, E: []tree.Expr{num(1)}, Body: l})
	}
	refused(t, prog(tree.Func{Name: "main", Vars: x, Body: l}), 10, 1, nil, api.ErrBig)
}

// TestDeepBlocks: P1 and P8.2, as many statements as may be, one in another,
// in as many frames as may be.
func TestDeepBlocks(t *testing.T) {
	inner := func(many int, l ...tree.Stmt) []tree.Stmt {
		for k := range many {
			s := of(tree.While, num(1))
			s.Body = append(l, of(tree.Break))
			if k%2 > 0 {
				s = of(tree.If, num(0))
				s.Else = l
			}
			l = block(s)
		}
		return l
	}
	last := set("x", num(5))
	last.Tag = 1
	call := tree.Stmt{Kind: tree.Call, Name: "x", Func: "f"}
	vars := []tree.Decl{{Name: "x"}}
	// Each While has a Break beside what stands in it.
	p := prog(tree.Func{Name: "f", Vars: vars, Body: inner(130, call)}, tree.Func{Name: "main", Vars: vars, Body: inner(130, last, call)})
	got, e := run.Run(p, nil, api.MaxFuel, 1, "x")
	hold(t, "deep blocks", got, e, run.Result{Trap: api.Deep, Steps: 131*api.MaxFrames + 1, Where: 131, Trace: rows(0)})
	got, e = run.Run(p, nil, 130, 1, "x")
	hold(t, "deep blocks", got, e, run.Result{Trap: api.Fuel, Steps: 130, Where: 130})
	if l, e := run.Visits(p, nil, api.MaxFuel); e != api.OK || len(l) != 132 || l[131].Node != 131 || l[131].Cells[0].V[0] != 5 {
		t.Errorf("error %d, and %d visits", e, len(l))
	}
}

// TestManyVars: P8.2, any number of vars.
func TestManyVars(t *testing.T) {
	p := parsed(t, "func main() { var x, y; y = 3; @1 x = 1; }")
	vars := slices.Repeat(strings.Fields("x y"), 50000)
	got, e := run.Run(p, nil, 10, 1, vars...)
	if e != api.OK || len(got.Trace) != 1 || !slices.Equal(got.Trace[0], slices.Repeat([]int64{0, 3}, 50000)) {
		t.Errorf("error %d, and %d rows", e, len(got.Trace))
	}
}
