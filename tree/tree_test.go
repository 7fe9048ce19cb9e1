package tree_test

import (
	"math"
	"math/rand"
	"reflect"
	"slices"
	"strings"
	"sync"
	"testing"

	"billhook/tree"
)

const (
	low  = math.MinInt64
	high = math.MaxInt64
)

// Written out once more, so that the tests do not hang on the program.
var levels = map[string]int{
	"||": 1, "&&": 2, "|": 3, "^": 4, "&": 5, "==": 6, "!=": 6, "<": 7, "<=": 7, ">": 7, ">=": 7,
	"<<": 8, ">>": 8, "+": 9, "-": 9, "*": 10, "/": 10, "%": 10,
}

var ops = []string{"||", "&&", "|", "^", "&", "==", "!=", "<", "<=", ">", ">=", "<<", ">>", "+", "-", "*", "/", "%"}

var unaries = []string{"-", "~", "!"}

// wrongNames are no names: chapter 2 says what is one.
var wrongNames = []string{"", " ", "1", "a ", " a", "a b", "a-b", "é", "\x00", "a\xff", "@1", "if", "read", "func", "var", "while", strings.Repeat("a", 25)}

var longName = strings.Repeat("a", 24)

func num(n int64) tree.Expr                 { return tree.Expr{Kind: tree.Num, N: n} }
func v(name string) tree.Expr               { return tree.Expr{Kind: tree.Var, Name: name} }
func index(a string, i tree.Expr) tree.Expr { return kids(tree.Expr{Kind: tree.Index, Name: a}, i) }
func un(op string, e tree.Expr) tree.Expr   { return kids(tree.Expr{Kind: tree.Unary, Op: op}, e) }

func kids(e tree.Expr, l ...tree.Expr) tree.Expr {
	e.Kids = l
	return e
}

func bin(a tree.Expr, op string, b tree.Expr) tree.Expr {
	return kids(tree.Expr{Kind: tree.Binary, Op: op}, a, b)
}

func assign(name string, e tree.Expr) tree.Stmt {
	return tree.Stmt{Kind: tree.Assign, Name: name, E: []tree.Expr{e}}
}

func store(name string, i, e tree.Expr) tree.Stmt {
	return tree.Stmt{Kind: tree.Store, Name: name, E: []tree.Expr{i, e}}
}

func read(name string) tree.Stmt { return tree.Stmt{Kind: tree.Read, Name: name} }

func call(name, f string, args ...tree.Expr) tree.Stmt {
	return tree.Stmt{Kind: tree.Call, Name: name, Func: f, E: args}
}

func branch(e tree.Expr, body, other []tree.Stmt) tree.Stmt {
	return tree.Stmt{Kind: tree.If, E: []tree.Expr{e}, Body: body, Else: other}
}

func loop(e tree.Expr, body ...tree.Stmt) tree.Stmt {
	return tree.Stmt{Kind: tree.While, E: []tree.Expr{e}, Body: body}
}

func of(kind int, l ...tree.Expr) tree.Stmt { return tree.Stmt{Kind: kind, E: l} }

func tagged(n int, s tree.Stmt) tree.Stmt {
	s.Tag = n
	return s
}

func block(l ...tree.Stmt) []tree.Stmt { return l }

// program has one statement of each kind, more than once where it may differ.
func program() tree.Prog {
	return tree.Prog{Funcs: []tree.Func{
		{Name: "f", Params: []string{"a", "b"}, Vars: []tree.Decl{{Name: "x"}, {Name: "l", Size: 3}}, Body: block(
			store("l", v("a"), bin(v("b"), "+", num(-1))),
			of(tree.Return, index("l", v("x"))))},
		{Name: "main", Vars: []tree.Decl{{Name: "i"}, {Name: "s"}}, Body: block(
			tagged(1, read("i")),
			loop(bin(v("i"), ">", num(0)),
				branch(un("!", v("s")), block(of(tree.Break)), block(of(tree.Continue), assign("s", num(1)))),
				branch(v("s"), nil, nil),
				tagged(1000000, call("s", "f", v("i"), un("-", num(5))))),
			of(tree.Assert, bin(bin(v("i"), "-", num(1)), "<=", num(high))))},
	}}
}

const programText = `func f(a, b) {
	var x, l[3];
	l[a] = b + -1;
	return l[x];
}
func main() {
	var i, s;
	@1 i = read();
	while (i > 0) {
		if (!s) {
			break;
		} else {
			continue;
			s = 1;
		}
		if (s) {
		}
		@1000000 s = f(i, -(5));
	}
	assert(i - 1 <= 9223372036854775807);
}
`

// TestKinds: the kinds have the numbers that the chapter gives.
func TestKinds(t *testing.T) {
	exprs := []int{tree.Num, tree.Var, tree.Index, tree.Unary, tree.Binary}
	stmts := []int{tree.Assign, tree.Store, tree.Read, tree.Call, tree.If, tree.While, tree.Break, tree.Continue, tree.Return, tree.Assert}
	for _, l := range [][]int{exprs, stmts} {
		for want, got := range l {
			if got != want {
				t.Errorf("kind %d is %d", want, got)
			}
		}
	}
}

// TestWhole: P3.1 to P3.4, of a program of all kinds.
func TestWhole(t *testing.T) {
	p := program()
	if !tree.Right(p) {
		t.Error("not right")
	}
	if got := tree.Put(p); got != programText {
		t.Errorf("put is\n%s", got)
	}
	if !tree.Same(p, program()) {
		t.Error("not the same")
	}
	if n := tree.Count(p.Funcs[1].Body); n != 9 {
		t.Errorf("%d statements in main", n)
	}
}

// TestNothing: what is asked of lists of nothing, nil or empty.
func TestNothing(t *testing.T) {
	for _, l := range [][]tree.Stmt{nil, {}} {
		if !tree.RightStmts(l) || tree.Count(l) != 0 || tree.PutStmts(l) != "" || !tree.SameStmts(l, nil) || !tree.SameStmts([]tree.Stmt{}, l) {
			t.Error("of no statements")
		}
	}
	for _, p := range []tree.Prog{{}, {Funcs: []tree.Func{}}} {
		if !tree.Right(p) || tree.Put(p) != "" || !tree.Same(p, tree.Prog{}) || !tree.Same(tree.Prog{Funcs: []tree.Func{}}, p) {
			t.Error("of no functions")
		}
	}
}

// TestArgumentsStay: P3, nothing that is handed in is written into, nor what
// stands behind it in its array.
func TestArgumentsStay(t *testing.T) {
	p := program()
	f := &p.Funcs[0]
	roomy := append(make([]tree.Stmt, 0, 9), f.Body...)
	f.Body = roomy
	tree.Put(p)
	tree.PutStmts(p.Funcs[1].Body)
	tree.PutExpr(f.Body[0].E[1])
	tree.Same(p, program())
	tree.SameStmts(f.Body, p.Funcs[1].Body)
	tree.Right(p)
	tree.Count(f.Body)
	if !reflect.DeepEqual(p, program()) {
		t.Error("written into")
	}
	for _, s := range roomy[len(roomy):cap(roomy)] {
		if !reflect.DeepEqual(s, tree.Stmt{}) {
			t.Error("written behind")
		}
	}
}

// TestSameAnswers: P4, answers hang on arguments alone, whoever else calls.
func TestSameAnswers(t *testing.T) {
	p := program()
	var done sync.WaitGroup
	for range 8 {
		done.Go(func() {
			for range 50 {
				if tree.Put(p) != programText || !tree.Right(p) || !tree.Same(p, p) || tree.Count(p.Funcs[1].Body) != 9 {
					t.Error("another answer")
				}
			}
		})
	}
	done.Wait()
}

// deepExpr is so deep, by each way in which an expression may be.
func deepExpr(deep int) tree.Expr {
	e := v("x")
	for k := range deep {
		switch k % 4 {
		case 0:
			e = un("-", e)
		case 1:
			e = index("l", e)
		case 2:
			e = bin(e, "+", num(1))
		case 3:
			e = bin(num(1), "-", e)
		}
	}
	return e
}

func deepStmts(deep int) []tree.Stmt {
	l := block(of(tree.Break))
	for k := range deep {
		switch k % 3 {
		case 0:
			l = block(loop(num(1), l...))
		case 1:
			l = block(branch(num(1), l, nil))
		case 2:
			l = block(branch(num(1), nil, l))
		}
	}
	return l
}

// TestDeep: P1, trees as deep as the limits allow.
func TestDeep(t *testing.T) {
	const deep = 99990
	a, b := deepExpr(deep), deepExpr(deep)
	if !tree.RightExpr(a) || !tree.SameExpr(a, b) || len(tree.PutExpr(a)) < deep {
		t.Error("of an expression")
	}
	if !tree.SameExpr(a, b) || tree.SameExpr(a, deepExpr(deep-4)) {
		t.Error("of two expressions")
	}
	l, m := deepStmts(deep), deepStmts(deep)
	if !tree.RightStmts(l) || !tree.SameStmts(l, m) || tree.Count(l) != deep+1 {
		t.Error("of statements")
	}
	wrong := deepStmts(deep - 3)
	for s := &wrong[0]; ; s = &append(s.Body, s.Else...)[0] {
		if len(s.Body)+len(s.Else) == 0 {
			s.Tag = -1
			break
		}
	}
	if tree.RightStmts(wrong) || tree.SameStmts(l, wrong) || tree.PutStmts(wrong) != "" {
		t.Error("of statements that are not right")
	}
	p := tree.Prog{Funcs: []tree.Func{{Name: "main", Body: deepStmts(2000)}}}
	if lines := strings.Count(tree.Put(p), "\n"); !tree.Right(p) || lines < 4000 {
		t.Errorf("%d lines", lines)
	}
}

// anyText is perhaps a name, an op, or nothing.
func anyText(r *rand.Rand) string {
	l := append([]string{"", "", "a", "b", "main", longName}, ops...)
	l = append(append(l, unaries...), wrongNames...)
	return l[r.Intn(len(l))]
}

func anyExpr(r *rand.Rand, deep int) tree.Expr {
	e := tree.Expr{Kind: r.Intn(8) - 1, Op: anyText(r), Name: anyText(r), N: int64(r.Intn(3) - 1)}
	if deep > 0 {
		for range r.Intn(4) {
			e.Kids = append(e.Kids, anyExpr(r, deep-1))
		}
	}
	return e
}

func anyStmts(r *rand.Rand, deep int) (l []tree.Stmt) {
	for range r.Intn(3) {
		s := tree.Stmt{Kind: r.Intn(13) - 1, Tag: r.Intn(4) - 1, Name: anyText(r), Func: anyText(r)}
		for range r.Intn(4) {
			s.E = append(s.E, anyExpr(r, 1))
		}
		if deep > 0 {
			s.Body, s.Else = anyStmts(r, deep-1), anyStmts(r, deep-1)
		}
		l = append(l, s)
	}
	return l
}

// TestWrongTrees: P1, of trees that are not right nothing panics; what is put
// of them is nothing.
func TestWrongTrees(t *testing.T) {
	r := rand.New(rand.NewSource(1))
	for range 4000 {
		e, l := anyExpr(r, 3), anyStmts(r, 3)
		p := tree.Prog{Funcs: []tree.Func{{Name: anyText(r), Params: []string{anyText(r)}, Vars: []tree.Decl{{anyText(r), r.Intn(3) - 1}}, Body: l}}}
		if (tree.PutExpr(e) != "") != tree.RightExpr(e) || !tree.SameExpr(e, e) {
			t.Errorf("of %v", e)
		}
		if (tree.PutStmts(l) != "") != (tree.RightStmts(l) && len(l) > 0) || !tree.SameStmts(l, l) {
			t.Errorf("of %v", l)
		}
		if (tree.Put(p) != "") != tree.Right(p) || !tree.Same(p, p) {
			t.Errorf("of %v", p)
		}
	}
	for _, kind := range []int{low, -1, 5, 6, 10, high} {
		e, s := tree.Expr{Kind: kind}, tree.Stmt{Kind: kind + 5}
		if tree.RightExpr(e) || tree.PutExpr(e) != "" {
			t.Errorf("of an expression of kind %d", kind)
		}
		if kind >= 5 && (tree.RightStmts(block(s)) || tree.PutStmts(block(s)) != "") {
			t.Errorf("of a statement of kind %d", s.Kind)
		}
	}
	bare := tree.Stmt{Kind: tree.If}
	for _, kind := range []int{tree.Assign, tree.Store, tree.While, tree.Return, tree.Assert, low, high, -1, 10} {
		if bare.Kind = kind; tree.RightStmts(block(bare)) || tree.PutStmts(block(bare)) != "" {
			t.Errorf("of a bare statement of kind %d", kind)
		}
	}
}

// flatten lists all statements, one that stands in another one behind that.
func flatten(l []tree.Stmt) (flat []tree.Stmt) {
	for _, s := range l {
		flat = append(flat, s)
		flat = append(flat, flatten(slices.Concat(s.Body, s.Else))...)
	}
	return flat
}

// TestCount: P3.1, all statements, in Body and Else, of any kind.
func TestCount(t *testing.T) {
	one := of(tree.Break)
	for _, c := range []struct {
		l    []tree.Stmt
		want int
	}{
		{block(one), 1}, {block(one, one, one), 3},
		{block(loop(num(1))), 1}, {block(loop(num(1), one, one), one), 4},
		{block(branch(num(1), block(one), block(one, one))), 4}, {block(branch(num(1), nil, block(one))), 2},
		{block(loop(num(1), branch(num(0), block(loop(num(1), one)), block(one)), one)), 6},
		{block(tree.Stmt{Kind: tree.Assign, Body: block(one), Else: block(one, one)}), 4},
		{block(tree.Stmt{Kind: -7, Tag: -1, Else: block(tree.Stmt{Kind: 99, Body: block(one)})}), 3},
		{block(assign("x", bin(num(1), "+", num(2)))), 1},
	} {
		if got := tree.Count(c.l); got != c.want {
			t.Errorf("Count(%v) is %d, not %d", c.l, got, c.want)
		}
	}
	r := rand.New(rand.NewSource(2))
	for range 500 {
		l := anyStmts(r, 4)
		if got, want := tree.Count(l), len(flatten(l)); got != want {
			t.Errorf("Count is %d, not %d", got, want)
		}
	}
}
