package eval_test

import (
	"reflect"
	"slices"
	"strconv"
	"sync"
	"testing"

	"billhook/api"
	"billhook/eval"
	"billhook/tree"
)

// TestArgumentsStay: P3, nothing that is handed in is written into, nor what
// stands behind it in its array; none of it is kept.
func TestArgumentsStay(t *testing.T) {
	f := sample()
	f.Params = append(make([]string, 0, 9), f.Params...)
	f.Vars = append(make([]tree.Decl, 0, 9), f.Vars...)
	args := append(make([]int64, 0, 9), 5, -6)
	e := eval.New(f, args...)
	e.Set("p", 1)
	e.Set("q", 2)
	e.Put("l", 0, 3)
	if !slices.Equal(args[:9], []int64{5, -6, 0, 0, 0, 0, 0, 0, 0}) {
		t.Errorf("args are %v", args[:9])
	}
	if !reflect.DeepEqual(f, sample()) || slices.Max(f.Params[2:9]) != "" || !reflect.DeepEqual(f.Vars[4:9], make([]tree.Decl, 5)) {
		t.Error("written into")
	}
	before := e.Cells()
	for i := range f.Params {
		f.Params[i], args[i] = "?", 99
	}
	for i := range f.Vars {
		f.Vars[i] = tree.Decl{Name: "?", Size: 9}
	}
	holdCells(t, e, before...)
	holdEval(t, e, parsed(t, "p * 100 + q * 10 + l[0]"), 123, api.None)
	x := parsed(t, "p + l[q - 2] * -(p && 1)")
	x.Kids = append(make([]tree.Expr, 0, 5), x.Kids...)
	e.Eval(x)
	if !reflect.DeepEqual(x, parsed(t, "p + l[q - 2] * -(p && 1)")) || !reflect.DeepEqual(x.Kids[2:5], make([]tree.Expr, 3)) {
		t.Error("an expression is written into")
	}
}

// TestAnswersApart: P3, what Cells tells is new memory, spare room too: it
// shares none with the Env, with another answer, or between two lists.
func TestAnswersApart(t *testing.T) {
	e, want := environment(), environment().Cells()
	kept, got := e.Cells(), e.Cells()
	for i := range got {
		l := got[i].V[:cap(got[i].V)]
		for k := range l {
			l[k] = 99
		}
		for k := range got {
			if k > i && !reflect.DeepEqual(got[k], want[k]) {
				t.Errorf("cell %d shares memory with cell %d", k, i)
			}
		}
	}
	got = got[:cap(got)]
	for i := range got {
		got[i] = eval.Cell{Name: "?"}
	}
	holdCells(t, e, want...)
	e.Set("p", 1000)
	e.Put("l", 1, 1000)
	if !reflect.DeepEqual(kept, want) {
		t.Error("what was told changes later")
	}
	holdEval(t, e, parsed(t, "p + l[1]"), 2000, api.None)
}

// TestEnvsApart: P3, two of one Func have each its own numbers.
func TestEnvsApart(t *testing.T) {
	f := sample()
	a, b := eval.New(f, 1, 2), eval.New(f, 3)
	a.Set("p", 10)
	b.Put("l", 2, 7)
	holdEval(t, a, parsed(t, "p * 100 + q * 10 + l[2]"), 1020, api.None)
	holdEval(t, b, parsed(t, "p * 100 + q * 10 + l[2]"), 307, api.None)
}

// TestSameAnswers: P4, answers hang on what was done to the Env, and on
// arguments, whoever else calls.
func TestSameAnswers(t *testing.T) {
	f, x := sample(), parsed(t, "l[p] * 10 + (q && l[0] / one[0]) + most[63]")
	ask := func(k int64) (l []int64) {
		e := eval.New(f, k%5, k)
		e.Put("l", k%3, k)
		e.Put("one", 0, k%2)
		n, trap := e.Eval(x)
		got, _ := e.Get("q")
		return append(e.Cells()[4].V, n, int64(trap), got)
	}
	var want [][]int64
	for k := range int64(40) {
		want = append(want, ask(k))
	}
	var done sync.WaitGroup
	for range 8 {
		done.Go(func() {
			for range 50 {
				for k := range int64(40) {
					if !slices.Equal(ask(k), want[k]) {
						t.Errorf("another answer of %d", k)
					}
				}
			}
		})
	}
	done.Wait()
}

// TestDeep: P1, trees as deep as the limits allow, on either side.
func TestDeep(t *testing.T) {
	const deep = 99990
	e := environment()
	first, second, minus, inner := num(1), num(1), num(1), num(1)
	wrong, trap, both := tree.Expr{Kind: 9}, bin(num(1), "/", num(0)), num(7)
	for range deep {
		first, second = bin(first, "+", num(1)), bin(num(1), "+", second)
		minus, inner = un("-", minus), index("l", inner)
		wrong, trap, both = un("~", wrong), bin(num(1), "-", trap), bin(num(1), "&&", both)
	}
	for i, c := range []struct {
		x    tree.Expr
		want int64
		trap api.Trap
	}{{first, deep + 1, 0}, {second, deep + 1, 0}, {minus, 1, 0}, {inner, 1, 0}, {wrong, 0, 0}, {trap, 0, api.Zero}, {both, 1, 0}} {
		if got, is := e.Eval(c.x); got != c.want || is != c.trap {
			t.Errorf("%d is %d, trap %d", i, got, is)
		}
	}
}

// TestMany: P1, a Func that was not checked may have any number of names.
func TestMany(t *testing.T) {
	const many = 100000
	f := tree.Func{}
	var args []int64
	for i := range many {
		f.Params = append(f.Params, "p"+strconv.Itoa(i))
		f.Vars = append(f.Vars, tree.Decl{Name: "l" + strconv.Itoa(i), Size: i % 3})
		args = append(args, int64(i))
	}
	e := eval.New(f, args...)
	for i := range int64(many) {
		name := strconv.FormatInt(i, 10)
		if n, ok := e.Get("p" + name); n != i || !ok {
			t.Fatalf("p%d has %d, %t", i, n, ok)
		}
		if ok := e.Put("l"+name, 1, i); ok != (i%3 == 2) {
			t.Fatalf("l%d has an element 1: %t", i, ok)
		}
	}
	if got := e.Cells(); len(got) != 2*many || got[many-1].Name != "p99999" || got[many].Name != "l0" {
		t.Errorf("%d cells", len(got))
	}
}
