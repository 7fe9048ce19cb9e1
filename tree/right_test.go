package tree_test

import (
	"math/rand"
	"slices"
	"strings"
	"testing"

	"billhook/tree"
)

// holdExpr fails, if e is right and must not be, or the other way round; by
// itself, and below others.
func holdExpr(t *testing.T, e tree.Expr, want bool) {
	t.Helper()
	if got := tree.RightExpr(e); got != want {
		t.Errorf("right is %t: %.300v", got, e)
	}
	for _, around := range []tree.Expr{index("l", e), un("!", e), bin(e, "+", v("a")), bin(num(1), "+", e), un("-", un("-", e))} {
		if got := tree.RightExpr(around); got != want {
			t.Errorf("right is %t: %.300v", got, around)
		}
	}
	holdStmt(t, of(tree.Assert, e), want)
}

// holdStmt is so of a statement.
func holdStmt(t *testing.T, s tree.Stmt, want bool) {
	t.Helper()
	one := of(tree.Break)
	for _, l := range [][]tree.Stmt{
		block(s), block(one, s), block(s, one), block(loop(num(1), s)), block(branch(num(1), block(s), nil)),
		block(branch(num(1), nil, block(one, s))), block(branch(num(1), block(one), block(loop(num(0), s)))),
	} {
		if got := tree.RightStmts(l); got != want {
			t.Errorf("right is %t: %.300v", got, l)
		}
		p := tree.Prog{Funcs: []tree.Func{{Name: "f"}, {Name: "main", Body: l}}}
		if got := tree.Right(p); got != want {
			t.Errorf("right is %t: %.300v", got, p)
		}
	}
}

// TestRightExprByHand: P3.1, each kind, and what is against it.
func TestRightExprByHand(t *testing.T) {
	for _, n := range []int64{low, -1, 0, 1, high} {
		holdExpr(t, num(n), true)
	}
	for _, name := range []string{"a", "_", "main", "x1", longName} {
		holdExpr(t, v(name), true)
		holdExpr(t, index(name, num(-1)), true)
	}
	for _, name := range wrongNames {
		holdExpr(t, v(name), false)
		holdExpr(t, index(name, num(0)), false)
	}
	for _, op := range ops {
		holdExpr(t, bin(v("a"), op, v("b")), true)
		holdExpr(t, un(op, v("a")), op == "-")
	}
	for _, op := range unaries {
		holdExpr(t, un(op, v("a")), true)
		holdExpr(t, bin(v("a"), op, v("b")), op == "-")
	}
	for _, op := range []string{"", " ", "=", "<>", "++", " +", "+ ", "+\x00", "a", "(", "~~", "!!", "１"} {
		holdExpr(t, bin(v("a"), op, v("b")), false)
		holdExpr(t, un(op, v("a")), false)
	}
}

// TestRightExprFields: P3.1, all that is not said must be nothing: each kind
// with each choice of the other fields, against a table.
func TestRightExprFields(t *testing.T) {
	shapes := map[int]struct {
		ops   []string
		named bool
		kids  int
	}{
		tree.Num: {[]string{""}, false, 0}, tree.Var: {[]string{""}, true, 0}, tree.Index: {[]string{""}, true, 1},
		tree.Unary: {unaries, false, 1}, tree.Binary: {ops, false, 2},
	}
	tried := slices.Concat(ops, unaries, []string{"", "=", "a"})
	for kind := -2; kind <= 7; kind++ {
		shape, known := shapes[kind]
		for _, op := range tried {
			for _, name := range []string{"", "a", "if"} {
				for _, n := range []int64{0, 1, -1, low} {
					for many := range 5 {
						e := tree.Expr{Kind: kind, Op: op, Name: name, N: n, Kids: slices.Repeat([]tree.Expr{v("k")}, many)}
						want := known && slices.Contains(shape.ops, op) && many == shape.kids && (n == 0 || kind == tree.Num) &&
							(shape.named && name == "a" || !shape.named && name == "")
						if got := tree.RightExpr(e); got != want {
							t.Errorf("right is %t: %v", got, e)
						}
					}
				}
			}
		}
	}
	holdExpr(t, tree.Expr{Kind: tree.Num, Kids: []tree.Expr{}}, true)
	holdExpr(t, tree.Expr{Kind: tree.Var, Name: "a", Kids: []tree.Expr{}}, true)
}

// TestRightStmtFields: P3.1, as above, of statements.
func TestRightStmtFields(t *testing.T) {
	type shape struct {
		named, calls, body, other bool
		exprs                     int
	}
	shapes := []shape{
		tree.Assign: {named: true, exprs: 1}, tree.Store: {named: true, exprs: 2}, tree.Read: {named: true},
		tree.Call: {named: true, calls: true, exprs: -1}, tree.If: {body: true, other: true, exprs: 1}, tree.While: {body: true, exprs: 1},
		tree.Break: {}, tree.Continue: {}, tree.Return: {exprs: 1}, tree.Assert: {exprs: 1},
	}
	fits := func(s tree.Stmt) bool {
		if s.Kind < 0 || s.Kind >= len(shapes) || s.Tag < 0 || s.Tag > 1000000 {
			return false
		}
		has := shapes[s.Kind]
		return (has.named && s.Name == "a" || !has.named && s.Name == "") && (has.calls && s.Func == "a" || !has.calls && s.Func == "") &&
			(has.body || len(s.Body) == 0) && (has.other || len(s.Else) == 0) && (has.exprs < 0 || has.exprs == len(s.E))
	}
	blocks := [][]tree.Stmt{nil, {}, block(of(tree.Break)), block(of(tree.Break), of(tree.Continue))}
	right := 0
	for kind := -2; kind <= 12; kind++ {
		for _, tag := range []int{0, 1, 1000000, -1, 1000001, low, high} {
			for _, name := range []string{"", "a", "if"} {
				for _, f := range []string{"", "a", "read"} {
					for many := range 4 {
						for _, body := range blocks {
							for _, other := range blocks {
								s := tree.Stmt{Kind: kind, Tag: tag, Name: name, Func: f, E: slices.Repeat([]tree.Expr{v("k")}, many), Body: body, Else: other}
								got := tree.RightStmts(block(s))
								if got != fits(s) {
									t.Errorf("right is %t: %v", got, s)
								}
								if got {
									right++
								}
							}
						}
					}
				}
			}
		}
	}
	// Of Ifs all 16 pairs of blocks, of Whiles 4 bodies by 2 of nothing, of the
	// others 4 of nothing; Calls with each of the 4 lists; each with 3 tags.
	if want := 3 * (16 + 8 + 4*4 + 7*4); right != want {
		t.Errorf("%d were right, not %d", right, want)
	}
}

// TestRightStmtByHand: P3.1, names, tags, and what stands below.
func TestRightStmtByHand(t *testing.T) {
	for _, name := range wrongNames {
		for _, s := range []tree.Stmt{assign(name, num(0)), store(name, num(0), num(0)), read(name), call(name, "f"), call("a", name), call(name, name)} {
			holdStmt(t, s, false)
		}
	}
	for _, s := range []tree.Stmt{assign(longName, num(0)), store("_", num(0), v("a")), read("main"), call("a", "main"), call(longName, longName, num(1), v("b"), num(3)),
		branch(v("a"), nil, nil), loop(v("a")), of(tree.Break), of(tree.Continue), of(tree.Return, num(0)), of(tree.Assert, num(0))} {
		for _, tag := range []int{0, 1, 999999, 1000000} {
			holdStmt(t, tagged(tag, s), true)
		}
		for _, tag := range []int{-1, 1000001, low, high, 1 << 32} {
			holdStmt(t, tagged(tag, s), false)
		}
	}
	wrong := tree.Expr{Kind: tree.Num, N: 1, Op: "+"}
	for _, s := range []tree.Stmt{assign("a", wrong), store("a", wrong, num(0)), store("a", num(0), wrong), call("a", "f", wrong), call("a", "f", num(0), num(0), wrong),
		branch(wrong, nil, nil), loop(wrong), of(tree.Return, wrong), of(tree.Assert, wrong)} {
		holdStmt(t, s, false)
	}
}

// TestRightProg: P3.1, the names of functions, params and vars, and sizes.
func TestRightProg(t *testing.T) {
	hold := func(f tree.Func, want bool) {
		t.Helper()
		good := tree.Func{Name: "g"}
		for _, p := range []tree.Prog{{Funcs: []tree.Func{f}}, {Funcs: []tree.Func{good, f}}, {Funcs: []tree.Func{f, good}}} {
			if got := tree.Right(p); got != want {
				t.Errorf("right is %t: %.300v", got, p)
			}
		}
	}
	hold(tree.Func{Name: "main"}, true)
	hold(tree.Func{Name: longName, Params: []string{"a", "a", "main"}, Vars: []tree.Decl{{Name: "a"}, {Name: longName, Size: high}, {Name: "_", Size: 1}}}, true)
	hold(tree.Func{Name: "f", Params: []string{}, Vars: []tree.Decl{}, Body: []tree.Stmt{}}, true)
	hold(tree.Func{Name: "f", Body: program().Funcs[1].Body}, true)
	hold(tree.Func{Name: "f", Body: block(read("a"), read("if"))}, false)
	for _, name := range wrongNames {
		hold(tree.Func{Name: name}, false)
		hold(tree.Func{Name: "f", Params: []string{name}}, false)
		hold(tree.Func{Name: "f", Params: []string{"a", name}}, false)
		hold(tree.Func{Name: "f", Vars: []tree.Decl{{Name: name}}}, false)
		hold(tree.Func{Name: "f", Vars: []tree.Decl{{Name: "a"}, {Name: name, Size: 2}}}, false)
	}
	for _, size := range []int{-1, -64, low} {
		hold(tree.Func{Name: "f", Vars: []tree.Decl{{Name: "a", Size: size}}}, false)
		hold(tree.Func{Name: "f", Vars: []tree.Decl{{Name: "a", Size: 3}, {Name: "b", Size: size}}}, false)
	}
}

// rightExpr and rightStmts are made-up trees that are right.
func rightExpr(r *rand.Rand, deep int) tree.Expr {
	names := []string{"a", "b", "_x9", "reads", longName}
	kind := r.Intn(8)
	if deep == 0 {
		kind = r.Intn(2)
	}
	switch kind {
	case 0:
		return num([]int64{low, low + 1, -5, -1, 0, 1, 5, 10, high}[r.Intn(9)])
	case 1:
		return v(names[r.Intn(len(names))])
	case 2:
		return index(names[r.Intn(len(names))], rightExpr(r, deep-1))
	case 3, 4:
		return un(unaries[r.Intn(3)], rightExpr(r, deep-1))
	}
	return bin(rightExpr(r, deep-1), ops[r.Intn(len(ops))], rightExpr(r, deep-1))
}

func rightStmts(r *rand.Rand, deep int) (l []tree.Stmt) {
	for range r.Intn(4) {
		l = append(l, rightStmt(r, deep))
	}
	return l
}

func rightStmt(r *rand.Rand, deep int) tree.Stmt {
	s := tree.Stmt{Kind: r.Intn(10)}
	if r.Intn(3) == 0 {
		s.Tag = []int{1, 2, 42, 1000000}[r.Intn(4)]
	}
	many := []int{tree.Assign: 1, tree.Store: 2, tree.Read: 0, tree.Call: r.Intn(4), tree.If: 1, tree.While: 1, tree.Break: 0, tree.Continue: 0, tree.Return: 1, tree.Assert: 1}[s.Kind]
	for range many {
		s.E = append(s.E, rightExpr(r, 2))
	}
	if s.Kind <= tree.Call {
		s.Name = []string{"a", "b", strings.Repeat("z", 24)}[r.Intn(3)]
	}
	if s.Kind == tree.Call {
		s.Func = []string{"f", "main"}[r.Intn(2)]
	}
	if deep > 0 && (s.Kind == tree.If || s.Kind == tree.While) {
		s.Body = rightStmts(r, deep-1)
	}
	if deep > 0 && s.Kind == tree.If {
		s.Else = rightStmts(r, deep-1)
	}
	return s
}

func rightProg(r *rand.Rand) (p tree.Prog) {
	for _, name := range []string{"f", "g", "main"}[r.Intn(3):] {
		p.Funcs = append(p.Funcs, tree.Func{
			Name:   name,
			Params: []string{"a", "b", "c"}[:r.Intn(4)],
			Vars:   []tree.Decl{{Name: "x"}, {Name: "l", Size: 1 + r.Intn(64)}, {Name: "y"}}[:r.Intn(4)],
			Body:   rightStmts(r, 3),
		})
	}
	return p
}

// TestRightMade: P3.1, made-up trees are right.
func TestRightMade(t *testing.T) {
	r := rand.New(rand.NewSource(3))
	for range 2000 {
		if e, l, p := rightExpr(r, 5), rightStmts(r, 3), rightProg(r); !tree.RightExpr(e) || !tree.RightStmts(l) || !tree.Right(p) {
			t.Errorf("not right: %v, %v or %v", e, l, p)
		}
	}
}
