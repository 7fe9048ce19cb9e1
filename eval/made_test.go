package eval_test

import (
	"math/rand"
	"reflect"
	"testing"

	"billhook/api"
	"billhook/eval"
	"billhook/tree"
	"billhook/word"
)

// model is what an Env must be: cells in order, gone through one by one.
type model []eval.Cell

func modelOf(f tree.Func, args []int64) (m model) {
	for i, name := range f.Params {
		n := int64(0)
		if i < len(args) {
			n = args[i]
		}
		m = append(m, cell(name, n))
	}
	for _, d := range f.Vars {
		switch {
		case d.Size <= 0:
			m = append(m, cell(d.Name, 0))
		case d.Size > api.MaxSize:
			m = append(m, array(d.Name, make([]int64, api.MaxSize)...))
		default:
			m = append(m, array(d.Name, make([]int64, d.Size)...))
		}
	}
	return m
}

// place is where a number is kept; ok is false, if there is no such.
func (m model) place(name string, array bool, i int64) (at *int64, ok bool) {
	for _, c := range m {
		if c.Name == name {
			if c.Array != array || i < 0 || i >= int64(len(c.V)) {
				return nil, false
			}
			return &c.V[i], true
		}
	}
	return nil, false
}

func (m model) got(name string, array bool, i int64) (int64, bool) {
	if at, ok := m.place(name, array, i); ok {
		return *at, true
	}
	return 0, false
}

func (m model) set(name string, array bool, i, n int64) bool {
	at, ok := m.place(name, array, i)
	if ok {
		*at = n
	}
	return ok
}

// stop is a trap that is panicked with.
type stop api.Trap

// value reckons a right x; a trap is panicked with.
func (m model) value(x tree.Expr) int64 {
	switch x.Kind {
	case tree.Num:
		return x.N
	case tree.Var:
		n, _ := m.got(x.Name, false, 0)
		return n
	case tree.Index:
		n, ok := m.got(x.Name, true, m.value(x.Kids[0]))
		if !ok {
			panic(stop(api.Bounds))
		}
		return n
	case tree.Unary:
		n, _ := word.Unary(x.Op, m.value(x.Kids[0]))
		return n
	}
	a := m.value(x.Kids[0])
	switch {
	case x.Op == "&&" && a == 0:
		return 0
	case x.Op == "||" && a != 0:
		return 1
	}
	n, trap := word.Binary(x.Op, a, m.value(x.Kids[1]))
	if trap != api.None {
		panic(stop(trap))
	}
	return n
}

// eval says what P7.3 asks.
func (m model) eval(x tree.Expr) (n int64, trap api.Trap) {
	defer func() {
		if s, ok := recover().(stop); ok {
			n, trap = 0, api.Trap(s)
		}
	}()
	if !tree.RightExpr(x) {
		return 0, api.None
	}
	return m.value(x), api.None
}

func pick[T any](r *rand.Rand, l ...T) T { return l[r.Intn(len(l))] }

func anyNumber(r *rand.Rand) int64 {
	return pick(r, 0, 0, 1, 1, 2, 3, -1, 5, 63, 64, 65, low, high, 1<<32, r.Int63(), -r.Int63())
}

func anyName(r *rand.Rand) string { return pick(r, "a", "b", "c", "d", "e", "l", "m") }

// anyExpr is right, or, if wrong, perhaps not.
func anyExpr(r *rand.Rand, deep int, wrong bool) (x tree.Expr) {
	kids := 0
	switch k := r.Intn(10); {
	case deep == 0 && k < 5:
		x = num(anyNumber(r))
	case deep == 0 || k == 0:
		x = v(anyName(r))
	case k < 3:
		x, kids = tree.Expr{Kind: tree.Index, Name: anyName(r)}, 1
	case k < 5:
		x, kids = tree.Expr{Kind: tree.Unary, Op: pick(r, "-", "~", "!")}, 1
	case k < 8:
		x, kids = tree.Expr{Kind: tree.Binary, Op: pick(r, word.Ops()...)}, 2
	default:
		x, kids = tree.Expr{Kind: tree.Binary, Op: pick(r, "&&", "||")}, 2
	}
	if wrong && r.Intn(12) == 0 {
		switch r.Intn(5) {
		case 0:
			x.Kind = r.Intn(8) - 1
		case 1:
			x.Op = pick(r, "", "-", "!", "=", "+")
		case 2:
			x.Name = pick(r, "", "a", "if", "l")
		case 3:
			x.N = anyNumber(r)
		case 4:
			kids = r.Intn(4)
		}
	}
	for range kids {
		x.Kids = append(x.Kids, anyExpr(r, max(deep-1, 0), wrong))
	}
	return x
}

func anyFunc(r *rand.Rand) (f tree.Func) {
	for range r.Intn(4) {
		f.Params = append(f.Params, anyName(r))
	}
	for range r.Intn(6) {
		f.Vars = append(f.Vars, tree.Decl{Name: anyName(r), Size: pick(r, 0, 0, 1, 2, 3, 5, 64, 65, -1, low, high)})
	}
	return f
}

func anyArgs(r *rand.Rand) (args []int64) {
	for range r.Intn(5) {
		args = append(args, anyNumber(r))
	}
	return args
}

// anyIndex is mostly of an array.
func anyIndex(r *rand.Rand) int64 {
	return pick[int64](r, 0, 1, 2, 0, 1, 2, 3, 4, 5, 63, 64, -1, low, high)
}

// step does one thing by chance to both, and fails, if they tell other things.
func step(t *testing.T, r *rand.Rand, e *eval.Env, m model) {
	t.Helper()
	name, i, n := anyName(r), anyIndex(r), anyNumber(r)
	switch r.Intn(5) {
	case 0:
		if got, want := e.Set(name, n), m.set(name, false, 0, n); got != want {
			t.Errorf("Set(%s, %d) tells %t, not %t", name, n, got, want)
		}
	case 1:
		if got, want := e.Put(name, i, n), m.set(name, true, i, n); got != want {
			t.Errorf("Put(%s, %d, %d) tells %t, not %t", name, i, n, got, want)
		}
	case 2:
		got, ok := e.Get(name)
		if want, wantOk := m.got(name, false, 0); got != want || ok != wantOk {
			t.Errorf("Get(%s) tells %d, %t, not %d, %t", name, got, ok, want, wantOk)
		}
	case 3:
		got, ok := e.At(name, i)
		if want, wantOk := m.got(name, true, i); got != want || ok != wantOk {
			t.Errorf("At(%s, %d) tells %d, %t, not %d, %t", name, i, got, ok, want, wantOk)
		}
	case 4:
		x := anyExpr(r, r.Intn(6), r.Intn(3) == 0)
		got, trap := e.Eval(x)
		if want, wantTrap := m.eval(x); got != want || trap != wantTrap {
			t.Errorf("%.300v is %d, trap %d; asked is %d, trap %d", x, got, trap, want, wantTrap)
		}
	}
}

// TestMade: P7.1 to P7.4, what was made by chance and had done to it what
// chance would, against a list of cells that is gone through one by one.
func TestMade(t *testing.T) {
	r := rand.New(rand.NewSource(1))
	for range 3000 {
		f, args := anyFunc(r), anyArgs(r)
		e, m := eval.New(f, args...), modelOf(f, args)
		for range 40 {
			step(t, r, e, m)
			if got := e.Cells(); len(got)+len(m) > 0 && !reflect.DeepEqual(got, []eval.Cell(m)) {
				t.Fatalf("cells are\n%v, not\n%v", got, m)
			}
		}
	}
}

// TestMadeHasAll: the expressions by chance have each kind of end, so that
// TestMade does not pass by trying nothing.
func TestMadeHasAll(t *testing.T) {
	r := rand.New(rand.NewSource(2))
	ends := map[api.Trap]int{}
	wrong, some := 0, 0
	for range 20000 {
		m := modelOf(anyFunc(r), anyArgs(r))
		x := anyExpr(r, r.Intn(6), r.Intn(3) == 0)
		n, trap := m.eval(x)
		ends[trap]++
		if !tree.RightExpr(x) {
			wrong++
		} else if n != 0 {
			some++
		}
	}
	if ends[api.None] < 100 || ends[api.Zero] < 100 || ends[api.Shift] < 100 || ends[api.Bounds] < 100 || wrong < 100 || some < 100 {
		t.Errorf("%v, %d wrong, %d not 0", ends, wrong, some)
	}
}

// TestEvalTwice: P7.4, what is reckoned changes nothing: the same is told
// again, and the cells stay.
func TestEvalTwice(t *testing.T) {
	r := rand.New(rand.NewSource(3))
	for range 2000 {
		f := anyFunc(r)
		e := eval.New(f, anyArgs(r)...)
		for range 20 {
			e.Set(anyName(r), anyNumber(r))
			e.Put(anyName(r), anyIndex(r), anyNumber(r))
		}
		before := e.Cells()
		x := anyExpr(r, 5, r.Intn(3) == 0)
		n, trap := e.Eval(x)
		again, trapAgain := e.Eval(x)
		if n != again || trap != trapAgain || n != 0 && trap != api.None {
			t.Errorf("%.300v is %d, trap %d; then %d, trap %d", x, n, trap, again, trapAgain)
		}
		holdCells(t, e, before...)
	}
}
