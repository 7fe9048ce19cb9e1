package eval_test

import (
	"math"
	"reflect"
	"strings"
	"testing"

	"billhook/api"
	"billhook/eval"
	"billhook/parse"
	"billhook/tree"
)

const (
	low  = math.MinInt64
	high = math.MaxInt64
)

func parsed(t *testing.T, s string) tree.Expr {
	t.Helper()
	x, at, e := parse.Expr(s)
	if e != api.OK {
		t.Fatalf("%q: error %d at %d", s, e, at)
	}
	return x
}

func num(n int64) tree.Expr   { return tree.Expr{Kind: tree.Num, N: n} }
func v(name string) tree.Expr { return tree.Expr{Kind: tree.Var, Name: name} }

func index(name string, i tree.Expr) tree.Expr {
	return tree.Expr{Kind: tree.Index, Name: name, Kids: []tree.Expr{i}}
}

func un(op string, a tree.Expr) tree.Expr {
	return tree.Expr{Kind: tree.Unary, Op: op, Kids: []tree.Expr{a}}
}

func bin(a tree.Expr, op string, b tree.Expr) tree.Expr {
	return tree.Expr{Kind: tree.Binary, Op: op, Kids: []tree.Expr{a, b}}
}

func cell(name string, n int64) eval.Cell {
	return eval.Cell{Name: name, V: []int64{n}}
}

func array(name string, v ...int64) eval.Cell {
	return eval.Cell{Name: name, Array: true, V: v}
}

// sample has two Params, a Var, and arrays of one, of three, and of most
// elements.
func sample() tree.Func {
	return tree.Func{Name: "f", Params: []string{"p", "q"}, Vars: []tree.Decl{{Name: "x"}, {Name: "one", Size: 1}, {Name: "l", Size: 3}, {Name: "most", Size: api.MaxSize}}}
}

func holdCells(t *testing.T, e *eval.Env, want ...eval.Cell) {
	t.Helper()
	got := e.Cells()
	if len(got) == 0 && len(want) == 0 {
		return
	}
	if !reflect.DeepEqual(got, want) {
		t.Errorf("cells are\n%v, not\n%v", got, want)
	}
}

// TestNewArgs: P7.1, of each Param its arg, 0 if there is none; more are
// nothing.
func TestNewArgs(t *testing.T) {
	f := tree.Func{Params: []string{"b", "a", "c"}, Vars: []tree.Decl{{Name: "x"}}}
	holdCells(t, eval.New(f), cell("b", 0), cell("a", 0), cell("c", 0), cell("x", 0))
	holdCells(t, eval.New(f, low), cell("b", low), cell("a", 0), cell("c", 0), cell("x", 0))
	holdCells(t, eval.New(f, 1, high), cell("b", 1), cell("a", high), cell("c", 0), cell("x", 0))
	holdCells(t, eval.New(f, 1, 2, 3), cell("b", 1), cell("a", 2), cell("c", 3), cell("x", 0))
	holdCells(t, eval.New(f, 1, 2, 3, 4, 5, 6), cell("b", 1), cell("a", 2), cell("c", 3), cell("x", 0))
	holdCells(t, eval.New(tree.Func{Vars: []tree.Decl{{Name: "x"}, {Name: "l", Size: 2}}}, 7, 8, 9), cell("x", 0), array("l", 0, 0))
	holdCells(t, eval.New(tree.Func{}))
	holdCells(t, eval.New(tree.Func{}, 1, 2))
}

// TestNewSizes: P7.1, which Vars are arrays, and of how many elements.
func TestNewSizes(t *testing.T) {
	for _, c := range []struct{ size, want int }{
		{1, 1}, {2, 2}, {63, 63}, {64, 64}, {65, 64}, {66, 64}, {1000, 64}, {1 << 32, 64}, {high, 64}, {high - 1, 64},
		{0, 0}, {-1, 0}, {-64, 0}, {-1 << 32, 0}, {low, 0}, {low + 1, 0},
	} {
		want := array("l", make([]int64, c.want)...)
		if c.want == 0 {
			want = cell("l", 0)
		}
		holdCells(t, eval.New(tree.Func{Vars: []tree.Decl{{Name: "l", Size: c.size}, {Name: "x"}}}), want, cell("x", 0))
	}
}

// TestNewNames: P7.1, cells may be of any name; of two of one name the first
// one is meant.
func TestNewNames(t *testing.T) {
	long := strings.Repeat("n", 1000)
	for _, name := range []string{"", "if", "1", " ", "\x00", "\xff", long} {
		e := eval.New(tree.Func{Params: []string{"p"}, Vars: []tree.Decl{{Name: name}}})
		holdCells(t, e, cell("p", 0), cell(name, 0))
		holdSet(t, e, name, 5, true)
	}
	e := eval.New(tree.Func{Params: []string{"a", "a", "b"}, Vars: []tree.Decl{{Name: "b"}, {Name: "a", Size: 2}, {Name: "c", Size: 2}, {Name: "c"}, {Name: "c", Size: 5}, {Name: "d"}, {Name: "d", Size: 3}}}, 1, 2, 3)
	holdSet(t, e, "a", 7, true)
	holdSet(t, e, "b", 8, true)
	holdSet(t, e, "c", 9, false)
	holdSet(t, e, "d", 10, true)
	holdPut(t, e, "a", 1, 11, false)
	holdPut(t, e, "c", 1, 12, true)
	holdPut(t, e, "c", 2, 13, false)
	holdPut(t, e, "d", 0, 14, false)
	holdCells(t, e, cell("a", 7), cell("a", 2), cell("b", 8), cell("b", 0), array("a", 0, 0), array("c", 0, 12), cell("c", 0), array("c", 0, 0, 0, 0, 0), cell("d", 10), array("d", 0, 0, 0))
}

// holdSet sets, and fails, if that is not told as want says, or if what is got
// is another number.
func holdSet(t *testing.T, e *eval.Env, name string, n int64, want bool) {
	t.Helper()
	if _, ok := e.Get(name); ok != want {
		t.Errorf("Get(%.20q) tells %t", name, ok)
	}
	if ok := e.Set(name, n); ok != want {
		t.Errorf("Set(%.20q, %d) tells %t", name, n, ok)
	}
	if !want {
		n = 0
	}
	if got, ok := e.Get(name); got != n || ok != want {
		t.Errorf("Get(%.20q) tells %d, %t", name, got, ok)
	}
}

// holdPut is so of an element.
func holdPut(t *testing.T, e *eval.Env, name string, i, n int64, want bool) {
	t.Helper()
	if _, ok := e.At(name, i); ok != want {
		t.Errorf("At(%.20q, %d) tells %t", name, i, ok)
	}
	if ok := e.Put(name, i, n); ok != want {
		t.Errorf("Put(%.20q, %d, %d) tells %t", name, i, n, ok)
	}
	if !want {
		n = 0
	}
	if got, ok := e.At(name, i); got != n || ok != want {
		t.Errorf("At(%.20q, %d) tells %d, %t", name, i, got, ok)
	}
}

// TestGetSet: P7.2, numbers of names; false of arrays, and of what is no name
// of a cell, and then nothing has changed.
func TestGetSet(t *testing.T) {
	e := eval.New(sample(), 5, -6)
	for _, c := range []eval.Cell{cell("p", 5), cell("q", -6), cell("x", 0)} {
		if n, ok := e.Get(c.Name); n != c.V[0] || !ok {
			t.Errorf("Get(%s) tells %d, %t", c.Name, n, ok)
		}
		for _, n := range []int64{low, high, -1, 0, 1 << 32, 17} {
			holdSet(t, e, c.Name, n, true)
		}
		e.Set(c.Name, c.V[0])
	}
	before := e.Cells()
	for _, name := range []string{"one", "l", "most", "", "P", "pp", "p ", "X", "f", "none", "p\x00"} {
		holdSet(t, e, name, 3, false)
	}
	holdCells(t, e, before...)
}

// TestAtPut: P7.2, elements; false at both ends, of names that are none, and of
// numbers, and then nothing has changed.
func TestAtPut(t *testing.T) {
	e := eval.New(sample(), 5, -6)
	for name, size := range map[string]int64{"one": 1, "l": 3, "most": api.MaxSize} {
		for i := range size {
			for _, n := range []int64{low, high, -1, 0, 1 << 32, i + 1} {
				holdPut(t, e, name, i, n, true)
			}
		}
		before := e.Cells()
		for _, i := range []int64{-1, -2, low, low + 1, size, size + 1, high, 1 << 32, 1<<32 + size - 1, -1 << 32, -size} {
			holdPut(t, e, name, i, 3, false)
		}
		holdCells(t, e, before...)
	}
	most := make([]int64, api.MaxSize)
	for i := range most {
		most[i] = int64(i) + 1
	}
	want := []eval.Cell{cell("p", 5), cell("q", -6), cell("x", 0), array("one", 1), array("l", 1, 2, 3), array("most", most...)}
	holdCells(t, e, want...)
	for _, name := range []string{"p", "q", "x", "", "L", "ll", "f", "none"} {
		for _, i := range []int64{0, 1, -1, low, high} {
			holdPut(t, e, name, i, 3, false)
		}
	}
	holdCells(t, e, want...)
}

// environment is what TestEval reckons in.
func environment() *eval.Env {
	e := eval.New(sample(), 5, -6)
	e.Put("one", 0, 100)
	for i := range int64(3) {
		e.Put("l", i, 2-i)
	}
	return e
}

func holdEval(t *testing.T, e *eval.Env, x tree.Expr, want int64, trap api.Trap) {
	t.Helper()
	before := e.Cells()
	if got, is := e.Eval(x); got != want || is != trap {
		t.Errorf("%.80q is %d, trap %d; asked is %d, trap %d", tree.PutExpr(x), got, is, want, trap)
	}
	holdCells(t, e, before...)
}

// TestEval: P7.3, each kind, by hand.
func TestEval(t *testing.T) {
	e := environment()
	for _, c := range []struct {
		s    string
		want int64
		trap api.Trap
	}{
		{"0", 0, 0}, {"9223372036854775807", high, 0}, {"-9223372036854775808", low, 0}, {"-1", -1, 0},
		{"p", 5, 0}, {"q", -6, 0}, {"x", 0, 0}, {"l", 0, 0}, {"most", 0, 0}, {"none", 0, 0}, {"f", 0, 0},
		{"one[0]", 100, 0}, {"l[0]", 2, 0}, {"l[1]", 1, 0}, {"l[2]", 0, 0}, {"l[l[0]]", 0, 0}, {"l[l[l[0]]]", 2, 0}, {"most[63]", 0, 0}, {"l[p + q + 1]", 2, 0},
		{"l[3]", 0, api.Bounds}, {"l[-1]", 0, api.Bounds}, {"most[64]", 0, api.Bounds}, {"one[1]", 0, api.Bounds}, {"l[p]", 0, api.Bounds}, {"l[9223372036854775807]", 0, api.Bounds}, {"l[-9223372036854775808]", 0, api.Bounds},
		{"p[0]", 0, api.Bounds}, {"x[0]", 0, api.Bounds}, {"none[0]", 0, api.Bounds}, {"l[1 / 0]", 0, api.Zero}, {"l[l[9] / 0]", 0, api.Bounds}, {"none[1 << 64]", 0, api.Shift}, {"l[1 / 0 + l[3]]", 0, api.Zero},
		{"-p", -5, 0}, {"~p", ^5, 0}, {"!p", 0, 0}, {"!x", 1, 0}, {"!!p", 1, 0}, {"-(-9223372036854775808)", low, 0}, {"~-1", 0, 0}, {"-l", 0, 0}, {"!none", 1, 0},
		{"-(1 / 0)", 0, api.Zero}, {"!l[7]", 0, api.Bounds}, {"~(1 << -1)", 0, api.Shift}, {"!(1 / 0)", 0, api.Zero},
		{"p + q", -1, 0}, {"p - q", 11, 0}, {"p * q", -30, 0}, {"-7 / 2", -3, 0}, {"-7 % 2", -1, 0}, {"p & 4", 4, 0}, {"p | 2", 7, 0}, {"p ^ 1", 4, 0}, {"1 << 62 << 1", low, 0}, {"q >> 1", -3, 0},
		{"p == 5", 1, 0}, {"p != 5", 0, 0}, {"q < p", 1, 0}, {"q <= -6", 1, 0}, {"q > p", 0, 0}, {"p >= 6", 0, 0}, {"9223372036854775807 + 1", low, 0}, {"p - (q - 1)", 12, 0}, {"l[0] * 10 + l[1]", 21, 0},
		{"1 / 0", 0, api.Zero}, {"1 % x", 0, api.Zero}, {"x / x", 0, api.Zero}, {"1 << 64", 0, api.Shift}, {"1 >> q", 0, api.Shift}, {"p / none", 0, api.Zero}, {"5 % l", 0, api.Zero},
		{"1 / 0 + l[3]", 0, api.Zero}, {"l[3] + 1 / 0", 0, api.Bounds}, {"(1 << 64) / 0", 0, api.Shift}, {"1 / 0 << 64", 0, api.Zero}, {"5 + l[3]", 0, api.Bounds}, {"1 / (1 << 64)", 0, api.Shift}, {"l[3] / 0", 0, api.Bounds}, {"0 * (1 / 0)", 0, api.Zero},
	} {
		holdEval(t, e, parsed(t, c.s), c.want, c.trap)
	}
}

// TestEvalHalfway: P7.3, of && and || the second kid is reckoned only where the
// first one does not decide; what is told is 1 or 0.
func TestEvalHalfway(t *testing.T) {
	e := environment()
	for _, c := range []struct {
		s    string
		want int64
		trap api.Trap
	}{
		{"0 && 0", 0, 0}, {"0 && 7", 0, 0}, {"7 && 0", 0, 0}, {"7 && 4", 1, 0}, {"-1 && 2", 1, 0}, {"p && q", 1, 0}, {"p && -9223372036854775808", 1, 0}, {"p && 4294967296", 1, 0},
		{"0 || 0", 0, 0}, {"0 || 7", 1, 0}, {"7 || 0", 1, 0}, {"7 || 4", 1, 0}, {"-1 || 2", 1, 0}, {"x || q", 1, 0}, {"x || -9223372036854775808", 1, 0}, {"4294967296 || 0", 1, 0},
		{"0 && 1 / 0", 0, 0}, {"x && l[9]", 0, 0}, {"0 && 1 << 64", 0, 0}, {"1 && 1 / 0", 0, api.Zero}, {"-1 && l[9]", 0, api.Bounds}, {"p && 1 << 64", 0, api.Shift},
		{"1 || 1 / 0", 1, 0}, {"q || l[9]", 1, 0}, {"-9 || 1 << 64", 1, 0}, {"0 || 1 / 0", 0, api.Zero}, {"x || l[9]", 0, api.Bounds}, {"0 || 1 << 64", 0, api.Shift},
		{"1 / 0 && 0", 0, api.Zero}, {"1 / 0 || 1", 0, api.Zero}, {"l[3] && 1 / 0", 0, api.Bounds}, {"l[3] || 1 / 0", 0, api.Bounds},
		{"0 && 1 / 0 || 7", 1, 0}, {"1 || 1 / 0 && 1 / 0", 1, 0}, {"1 && 0 && 1 / 0", 0, 0}, {"0 || 1 || 1 / 0", 1, 0}, {"(1 || 1 / 0) && l[9]", 0, api.Bounds}, {"!(0 && 1 / 0) + 1", 2, 0},
		{"0 && (1 || 1 / 0)", 0, 0}, {"p > 0 && l[p - 3] == 0", 1, 0}, {"p < 3 && l[p]", 0, 0}, {"p >= 3 || l[p]", 1, 0}, {"(0 & 1) / 0", 0, api.Zero}, {"0 & 1 / 0", 0, api.Zero}, {"1 | 1 / 0", 0, api.Zero},
	} {
		holdEval(t, e, parsed(t, c.s), c.want, c.trap)
	}
}

// TestEvalFollows: P7.3, names are reckoned as what they are at that time.
func TestEvalFollows(t *testing.T) {
	e := environment()
	x := parsed(t, "p * 10 + l[x]")
	holdEval(t, e, x, 52, api.None)
	e.Set("p", -1)
	holdEval(t, e, x, -8, api.None)
	e.Set("x", 2)
	holdEval(t, e, x, -10, api.None)
	e.Put("l", 2, 77)
	holdEval(t, e, x, 67, api.None)
	e.Set("x", 3)
	holdEval(t, e, x, 0, api.Bounds)
	holdEval(t, eval.New(sample()), x, 0, api.None)
	twice := eval.New(tree.Func{Params: []string{"a", "a"}, Vars: []tree.Decl{{Name: "l"}, {Name: "l", Size: 1}, {Name: "m", Size: 1}, {Name: "m"}}}, 3, 4)
	twice.Set("l", 8)
	twice.Put("m", 0, 9)
	holdEval(t, twice, parsed(t, "a * 100 + l * 10 + m[0]"), 389, api.None)
	holdEval(t, twice, v("m"), 0, api.None)
	holdEval(t, twice, parsed(t, "l[0]"), 0, api.Bounds)
}

// TestEvalNotRight: P7.3, of what is not right 0, and no trap, whatever the
// kids that are right would tell, and whether the others would be reckoned or
// not.
func TestEvalNotRight(t *testing.T) {
	zero := bin(num(1), "/", num(0))
	beyond := index("l", num(3))
	wrong := []tree.Expr{
		{Kind: -1}, {Kind: 5}, {Kind: low}, {Kind: high}, {Kind: tree.Num, N: 7, Op: "+"}, {Kind: tree.Num, N: 7, Name: "p"}, {Kind: tree.Num, N: 7, Kids: []tree.Expr{zero}}, {Kind: -1, N: 7}, {Kind: 5, N: 7, Name: "p"},
		v(""), v("if"), v("1"), v("p "), v(strings.Repeat("p", api.MaxName+1)), {Kind: tree.Var, Name: "p", N: 1}, {Kind: tree.Var, Name: "p", Op: "-"}, {Kind: tree.Var, Name: "p", Kids: []tree.Expr{num(1)}},
		index("", num(0)), index("while", num(9)), {Kind: tree.Index, Name: "l"}, {Kind: tree.Index, Name: "l", Kids: []tree.Expr{num(0), num(1)}}, {Kind: tree.Index, Name: "l", N: 1, Kids: []tree.Expr{num(9)}}, {Kind: tree.Index, Name: "l", Op: "+", Kids: []tree.Expr{zero}},
		un("", num(1)), un("+", num(1)), un("--", num(1)), un("&&", zero), {Kind: tree.Unary, Op: "-"}, {Kind: tree.Unary, Op: "!", Kids: []tree.Expr{num(0), num(0)}}, {Kind: tree.Unary, Op: "!", N: 1, Kids: []tree.Expr{num(0)}}, {Kind: tree.Unary, Op: "!", Name: "p", Kids: []tree.Expr{num(0)}},
		bin(num(1), "", num(2)), bin(num(1), "!", num(2)), bin(num(1), "=", num(2)), bin(zero, "~", beyond), {Kind: tree.Binary, Op: "+"}, {Kind: tree.Binary, Op: "+", Kids: []tree.Expr{num(1)}}, {Kind: tree.Binary, Op: "+", Kids: []tree.Expr{num(1), num(2), num(3)}},
		{Kind: tree.Binary, Op: "/", N: 1, Kids: []tree.Expr{num(1), num(0)}}, {Kind: tree.Binary, Op: "/", Name: "p", Kids: []tree.Expr{num(1), num(0)}}, {Kind: tree.Binary, Op: "||", Kids: []tree.Expr{num(1)}},
	}
	e := environment()
	for _, x := range wrong {
		for _, x := range []tree.Expr{
			x, index("l", x), un("!", x), un("~", x), bin(x, "+", num(5)), bin(num(5), "+", x), bin(num(5), "/", x), bin(zero, "+", x), bin(beyond, "&&", x), bin(num(1), "||", x), bin(num(0), "&&", x),
			bin(x, "||", num(1)), bin(bin(num(1), "||", un("-", x)), "+", num(3)), index("l", bin(num(9), "+", x)), bin(x, "+", zero), bin(x, "&&", zero), bin(num(1), "||", index("l", bin(x, "==", num(0)))),
		} {
			if n, trap := e.Eval(x); n != 0 || trap != api.None {
				t.Errorf("%v is %d, trap %d", x, n, trap)
			}
		}
	}
	holdCells(t, e, environment().Cells()...)
	odd := eval.New(tree.Func{Params: []string{"if", ""}, Vars: []tree.Decl{{Name: "1", Size: 2}}}, 5, 6)
	holdEval(t, odd, v("if"), 0, api.None)
	holdEval(t, odd, v(""), 0, api.None)
	holdEval(t, odd, index("1", num(7)), 0, api.None)
}
