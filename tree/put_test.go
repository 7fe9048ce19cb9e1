package tree_test

import (
	"fmt"
	"math/rand"
	"slices"
	"strconv"
	"strings"
	"testing"

	"billhook/api"
	"billhook/lex"
	"billhook/tree"
)

// TestPutExprByHand: P3.2, answers written out.
func TestPutExprByHand(t *testing.T) {
	a, b, c := v("a"), v("b"), v("c")
	for _, d := range []struct {
		e    tree.Expr
		want string
	}{
		{num(0), "0"}, {num(-7), "-7"}, {num(high), "9223372036854775807"}, {num(low), "-9223372036854775808"}, {a, "a"}, {v(longName), longName},
		{index("l", num(0)), "l[0]"}, {index("l", bin(a, "||", b)), "l[a || b]"}, {index("l", index("m", un("-", a))), "l[m[-a]]"}, {index("l", num(-1)), "l[-1]"},
		{un("-", a), "-a"}, {un("~", a), "~a"}, {un("!", a), "!a"}, {un("!", un("!", a)), "!!a"}, {un("-", un("-", a)), "--a"}, {un("-", un("~", a)), "-~a"},
		{un("-", num(0)), "-(0)"}, {un("-", num(5)), "-(5)"}, {un("-", num(high)), "-(9223372036854775807)"},
		{un("-", num(-1)), "--1"}, {un("-", num(-5)), "--5"}, {un("-", num(low)), "--9223372036854775808"}, {un("-", un("-", num(5))), "--(5)"}, {un("-", un("-", num(-5))), "---5"},
		{un("~", num(5)), "~5"}, {un("!", num(0)), "!0"}, {un("~", num(-5)), "~-5"}, {un("!", un("-", num(5))), "!-(5)"},
		{un("-", index("l", a)), "-l[a]"}, {un("-", bin(a, "*", b)), "-(a * b)"}, {un("!", bin(a, "==", b)), "!(a == b)"}, {un("~", bin(num(1), "||", b)), "~(1 || b)"},
		{bin(a, "-", b), "a - b"}, {bin(a, "-", bin(b, "-", c)), "a - (b - c)"}, {bin(bin(a, "-", b), "-", c), "a - b - c"},
		{bin(a, "+", bin(b, "*", c)), "a + b * c"}, {bin(bin(a, "+", b), "*", c), "(a + b) * c"}, {bin(a, "*", bin(b, "+", c)), "a * (b + c)"}, {bin(bin(a, "*", b), "+", c), "a * b + c"},
		{bin(bin(a, "+", b), "-", c), "a + b - c"}, {bin(a, "+", bin(b, "-", c)), "a + (b - c)"}, {bin(a, "*", bin(b, "%", c)), "a * (b % c)"}, {bin(bin(a, "/", b), "%", c), "a / b % c"},
		{bin(a, "&", bin(b, "|", c)), "a & (b | c)"}, {bin(a, "|", bin(b, "^", c)), "a | b ^ c"}, {bin(bin(a, "==", b), "<", c), "(a == b) < c"}, {bin(a, "==", bin(b, "<", c)), "a == b < c"},
		{bin(bin(a, "||", b), "&&", c), "(a || b) && c"}, {bin(a, "||", bin(b, "&&", c)), "a || b && c"}, {bin(a, "||", bin(b, "||", c)), "a || (b || c)"},
		{bin(bin(a, "<<", b), ">>", c), "a << b >> c"}, {bin(a, "<<", bin(b, "+", c)), "a << b + c"}, {bin(bin(a, "<<", b), "+", c), "(a << b) + c"},
		{bin(un("-", a), "-", un("-", b)), "-a - -b"}, {bin(num(-1), "-", num(-2)), "-1 - -2"}, {bin(num(1), "-", num(2)), "1 - 2"}, {bin(un("-", num(1)), "*", un("-", num(2))), "-(1) * -(2)"},
		{bin(un("!", bin(a, "<", b)), "*", c), "!(a < b) * c"}, {bin(index("l", bin(a, "+", b)), "*", c), "l[a + b] * c"}, {un("-", un("-", bin(a, "+", b))), "--(a + b)"},
		{bin(a, "*", bin(bin(b, "+", c), "*", a)), "a * ((b + c) * a)"},
	} {
		if got := tree.PutExpr(d.e); got != d.want {
			t.Errorf("put is %q, not %q", got, d.want)
		}
	}
}

// TestPutLevels: P3.2, each op within each other one, on both sides.
func TestPutLevels(t *testing.T) {
	a, b, c := v("a"), v("b"), v("c")
	for _, o := range ops {
		for _, i := range ops {
			left, right := "a "+i+" b", "b "+i+" c"
			if levels[i] < levels[o] {
				left = "(" + left + ")"
			}
			if levels[i] <= levels[o] {
				right = "(" + right + ")"
			}
			if got, want := tree.PutExpr(bin(bin(a, i, b), o, c)), left+" "+o+" c"; got != want {
				t.Errorf("put is %q, not %q", got, want)
			}
			if got, want := tree.PutExpr(bin(a, o, bin(b, i, c))), "a "+o+" "+right; got != want {
				t.Errorf("put is %q, not %q", got, want)
			}
		}
	}
}

// TestPutStmtsByHand: P3.3, each kind, with a tag and with none.
func TestPutStmtsByHand(t *testing.T) {
	a, sum := v("a"), bin(v("a"), "+", num(1))
	for _, d := range []struct {
		s    tree.Stmt
		want string
	}{
		{assign("x", sum), "x = a + 1;\n"}, {assign("x", num(-1)), "x = -1;\n"}, {assign("x", index("l", a)), "x = l[a];\n"},
		{store("l", num(0), sum), "l[0] = a + 1;\n"}, {store("l", sum, index("l", num(-1))), "l[a + 1] = l[-1];\n"},
		{read("x"), "x = read();\n"}, {call("x", "f"), "x = f();\n"}, {call("x", "f", a), "x = f(a);\n"}, {call("x", "g", a, sum, num(-3)), "x = g(a, a + 1, -3);\n"},
		{branch(a, nil, nil), "if (a) {\n}\n"}, {branch(sum, block(read("x")), nil), "if (a + 1) {\n\tx = read();\n}\n"},
		{branch(a, nil, block(read("x"))), "if (a) {\n} else {\n\tx = read();\n}\n"},
		{branch(a, block(read("x"), read("y")), block(of(tree.Break), read("z"))), "if (a) {\n\tx = read();\n\ty = read();\n} else {\n\tbreak;\n\tz = read();\n}\n"},
		{loop(a), "while (a) {\n}\n"}, {loop(sum, of(tree.Continue), of(tree.Break)), "while (a + 1) {\n\tcontinue;\n\tbreak;\n}\n"},
		{of(tree.Break), "break;\n"}, {of(tree.Continue), "continue;\n"},
		{of(tree.Return, sum), "return a + 1;\n"}, {of(tree.Return, num(-1)), "return -1;\n"}, {of(tree.Assert, sum), "assert(a + 1);\n"}, {of(tree.Assert, bin(sum, "*", sum)), "assert((a + 1) * (a + 1));\n"},
	} {
		for _, tag := range []int{0, 1, 1000000} {
			want := d.want
			if tag > 0 {
				want = "@" + strconv.Itoa(tag) + " " + want
			}
			if got := tree.PutStmts(block(tagged(tag, d.s))); got != want {
				t.Errorf("put is %q, not %q", got, want)
			}
			inner := "while (1) {\n\t" + strings.TrimSuffix(strings.ReplaceAll(want, "\n", "\n\t"), "\t") + "}\n"
			if got := tree.PutStmts(block(loop(num(1), tagged(tag, d.s)))); got != inner {
				t.Errorf("put is %q, not %q", got, inner)
			}
			if got := tree.PutStmts(block(tagged(tag, d.s), d.s, read("z"))); got != want+d.want+"z = read();\n" {
				t.Errorf("put is %q", got)
			}
		}
	}
}

// TestPutByHand: P3.4, heads, declarations and bodies of functions.
func TestPutByHand(t *testing.T) {
	for _, d := range []struct {
		f    tree.Func
		want string
	}{
		{tree.Func{Name: "main"}, "func main() {\n}\n"},
		{tree.Func{Name: "f", Params: []string{"a"}}, "func f(a) {\n}\n"},
		{tree.Func{Name: "f", Params: []string{"a", "b", "c"}}, "func f(a, b, c) {\n}\n"},
		{tree.Func{Name: "f", Vars: []tree.Decl{{Name: "x"}}}, "func f() {\n\tvar x;\n}\n"},
		{tree.Func{Name: "f", Vars: []tree.Decl{{Name: "l", Size: 1}}}, "func f() {\n\tvar l[1];\n}\n"},
		{tree.Func{Name: "f", Vars: []tree.Decl{{Name: "x"}, {Name: "l", Size: 64}, {Name: "y"}, {Name: "m", Size: 1000000}}}, "func f() {\n\tvar x, l[64], y, m[1000000];\n}\n"},
		{tree.Func{Name: "f", Params: []string{"a"}, Vars: []tree.Decl{{Name: "x"}}, Body: block(tagged(7, loop(v("a"), of(tree.Break))), of(tree.Return, v("x")))},
			"func f(a) {\n\tvar x;\n\t@7 while (a) {\n\t\tbreak;\n\t}\n\treturn x;\n}\n"},
		{tree.Func{Name: "f", Body: block(read("x"))}, "func f() {\n\tx = read();\n}\n"},
	} {
		if got := tree.Put(tree.Prog{Funcs: []tree.Func{d.f}}); got != d.want {
			t.Errorf("put is %q, not %q", got, d.want)
		}
		if got := tree.Put(tree.Prog{Funcs: []tree.Func{d.f, d.f, {Name: "main"}}}); got != d.want+d.want+"func main() {\n}\n" {
			t.Errorf("put is %q", got)
		}
	}
}

// exprReader reads an expression back, so that what is put can be held against
// what it was put of.
type exprReader struct {
	l []lex.Token
}

func (r *exprReader) next() string {
	if len(r.l) == 0 {
		return ""
	}
	return r.l[0].Text
}

func (r *exprReader) take() (w lex.Token) {
	if len(r.l) > 0 {
		w, r.l = r.l[0], r.l[1:]
	}
	return w
}

// expr takes ops of that level, and those that bind first.
func (r *exprReader) expr(level int) tree.Expr {
	if level > 10 {
		return r.operand()
	}
	e := r.expr(level + 1)
	for levels[r.next()] == level {
		op := r.take().Text
		e = bin(e, op, r.expr(level+1))
	}
	return e
}

func (r *exprReader) operand() tree.Expr {
	w := r.take()
	switch {
	case w.Kind == lex.Number:
		return num(int64(w.N))
	case w.Kind == lex.Name && r.next() == "[":
		r.take()
		e := index(w.Text, r.expr(1))
		r.take()
		return e
	case w.Kind == lex.Name:
		return v(w.Text)
	case w.Text == "(":
		e := r.expr(1)
		r.take()
		return e
	case w.Text == "-" && len(r.l) > 0 && r.l[0].Kind == lex.Number:
		return num(int64(-r.take().N))
	case slices.Contains(unaries, w.Text):
		return un(w.Text, r.operand())
	}
	return tree.Expr{Kind: -1}
}

// readBack is not so, if s is no expression, whole.
func readBack(s string) (e tree.Expr, ok bool) {
	l, _, errno := lex.All(s)
	r := &exprReader{l}
	e = r.expr(1)
	return e, errno == api.OK && len(r.l) == 0 && tree.RightExpr(e)
}

// shutOf is where the bracket that opens at i is shut.
func shutOf(s string, i int) int {
	open := 0
	for k := i; k < len(s); k++ {
		switch s[k] {
		case '(':
			open++
		case ')':
			if open--; open == 0 {
				return k
			}
		}
	}
	return -1
}

// TestPutExprIsRead: P3.2 and P3.5, what is put is read as what it was put of,
// and no more brackets stand there than that needs.
func TestPutExprIsRead(t *testing.T) {
	r := rand.New(rand.NewSource(7))
	brackets := 0
	for range 20000 {
		e := rightExpr(r, 1+r.Intn(6))
		s := tree.PutExpr(e)
		if back, ok := readBack(s); len(s) <= api.MaxText && (!ok || !tree.SameExpr(e, back)) {
			t.Fatalf("%q is read as %v", s, back)
		}
		if len(s) > 200 {
			continue
		}
		for i := range s {
			if s[i] != '(' {
				continue
			}
			brackets++
			k := shutOf(s, i)
			if back, ok := readBack(s[:i] + " " + s[i+1:k] + " " + s[k+1:]); ok && tree.SameExpr(e, back) {
				t.Errorf("%q: the brackets at %d and %d are not needed", s, i, k)
			}
		}
	}
	if brackets < 5000 {
		t.Errorf("only %d brackets", brackets)
	}
}

// TestPutExprSpaces: P3.2, a space stands on each side of an op of two, and
// nowhere else.
func TestPutExprSpaces(t *testing.T) {
	r := rand.New(rand.NewSource(8))
	for range 3000 {
		s := tree.PutExpr(rightExpr(r, 4))
		l, _, _ := lex.All(s)
		var b strings.Builder
		for i, w := range l {
			operand := i > 0 && (l[i-1].Kind == lex.Name || l[i-1].Kind == lex.Number || l[i-1].Text == ")" || l[i-1].Text == "]")
			if operand && levels[w.Text] > 0 {
				b.WriteString(" " + w.Text + " ")
			} else {
				b.WriteString(w.Text)
			}
		}
		if b.String() != s {
			t.Errorf("put is %q, not %q", s, b.String())
		}
	}
}

// head tells what stands ahead of the blocks of s, or all of it.
func head(s tree.Stmt) string {
	texts := []string{"", ""}
	for i, e := range s.E {
		texts = slices.Insert(texts, i, tree.PutExpr(e))
	}
	form := []string{
		tree.Assign: "NAME = FIRST;", tree.Store: "NAME[FIRST] = SECOND;", tree.Read: "NAME = read();", tree.Call: "NAME = FUNC(EACH);",
		tree.If: "if (FIRST) {", tree.While: "while (FIRST) {", tree.Break: "break;", tree.Continue: "continue;", tree.Return: "return FIRST;", tree.Assert: "assert(FIRST);",
	}[s.Kind]
	if s.Tag > 0 {
		form = "@TAG " + form
	}
	each := strings.Join(texts[:len(s.E)], ", ")
	return strings.NewReplacer("TAG", strconv.Itoa(s.Tag), "NAME", s.Name, "FUNC", s.Func, "EACH", each, "FIRST", texts[0], "SECOND", texts[1]).Replace(form)
}

// lines says what P3.3 asks, line by line.
func lines(l []tree.Stmt, tabs string) (told []string) {
	for _, s := range l {
		told = append(told, tabs+head(s))
		if s.Kind != tree.If && s.Kind != tree.While {
			continue
		}
		told = append(told, lines(s.Body, tabs+"\t")...)
		if len(s.Else) > 0 {
			told = append(told, tabs+"} else {")
			told = append(told, lines(s.Else, tabs+"\t")...)
		}
		told = append(told, tabs+"}")
	}
	return told
}

func ended(lines []string) string {
	if len(lines) == 0 {
		return ""
	}
	return strings.Join(lines, "\n") + "\n"
}

// TestPutMade: P3.3 and P3.4, made-up trees, line by line.
func TestPutMade(t *testing.T) {
	r := rand.New(rand.NewSource(9))
	for range 2000 {
		l := rightStmts(r, 4)
		if got, want := tree.PutStmts(l), ended(lines(l, "")); got != want {
			t.Fatalf("put is\n%s, not\n%s", got, want)
		}
		p := rightProg(r)
		var want []string
		for _, f := range p.Funcs {
			want = append(want, "func "+f.Name+"("+strings.Join(f.Params, ", ")+") {")
			var vars []string
			for _, d := range f.Vars {
				vars = append(vars, strings.TrimSuffix(fmt.Sprintf("%s[%d]", d.Name, d.Size), "[0]"))
			}
			if len(vars) > 0 {
				want = append(want, "\tvar "+strings.Join(vars, ", ")+";")
			}
			want = append(append(want, lines(f.Body, "\t")...), "}")
		}
		if got := tree.Put(p); got != ended(want) {
			t.Fatalf("put is\n%s, not\n%s", got, ended(want))
		}
	}
}

// smallExprs are all right ones that are so deep at most, of few names, numbers
// and ops.
func smallExprs(deep int) (l []tree.Expr) {
	l = []tree.Expr{num(0), num(1), num(-1), v("a")}
	if deep == 0 {
		return l
	}
	below := smallExprs(deep - 1)
	for _, e := range below {
		l = append(l, un("-", e), un("!", e), index("a", e))
		for _, f := range below {
			l = append(l, bin(e, "-", f), bin(e, "*", f), bin(e, "&&", f))
		}
	}
	return l
}

// apart fails, if two different trees are put alike.
func apart[T any](t *testing.T, l []T, put func(T) string, same func(a, b T) bool) {
	t.Helper()
	seen := map[string]T{}
	for _, x := range l {
		s := put(x)
		if y, ok := seen[s]; ok && !same(x, y) {
			t.Errorf("%q is put of %v and of %v", s, x, y)
		}
		seen[s] = x
	}
	t.Logf("%d trees, %d texts", len(l), len(seen))
}

// TestPutApart: P3.5, trees that are not the same are put as other texts.
func TestPutApart(t *testing.T) {
	small := smallExprs(2)
	apart(t, small, tree.PutExpr, tree.SameExpr)
	var stmts [][]tree.Stmt
	below := [][]tree.Stmt{nil, block(of(tree.Break)), block(read("a")), block(branch(num(1), nil, nil))}
	for _, e := range smallExprs(1) {
		for _, s := range []tree.Stmt{assign("a", e), store("a", e, num(1)), store("a", num(1), e), read("a"), call("a", "f"), call("a", "f", e), call("f", "a", e, num(1)),
			of(tree.Return, e), of(tree.Assert, e), of(tree.Continue)} {
			stmts = append(stmts, block(s), block(tagged(1, s)), block(tagged(11, s)), block(s, s))
		}
		for _, x := range below {
			stmts = append(stmts, block(loop(e, x...)), slices.Concat(block(loop(e)), x))
			for _, y := range below {
				stmts = append(stmts, block(branch(e, x, y)), slices.Concat(block(branch(e, x, nil)), y), block(branch(e, slices.Concat(x, y), nil)))
			}
		}
	}
	apart(t, stmts, tree.PutStmts, tree.SameStmts)
	var progs []tree.Prog
	for _, params := range [][]string{nil, {"a"}, {"b"}, {"a", "b"}} {
		for _, vars := range [][]tree.Decl{nil, {{Name: "a"}}, {{Name: "a", Size: 1}}, {{Name: "a", Size: 11}}, {{Name: "a"}, {Name: "b"}}, {{Name: "a", Size: 1}, {Name: "b"}}} {
			for _, body := range below {
				f := tree.Func{Name: "f", Params: params, Vars: vars, Body: body}
				progs = append(progs, tree.Prog{Funcs: []tree.Func{f}}, tree.Prog{Funcs: []tree.Func{f, {Name: "g"}}}, tree.Prog{Funcs: []tree.Func{{Name: "g"}, f}})
			}
		}
	}
	apart(t, progs, tree.Put, tree.Same)
	r := rand.New(rand.NewSource(10))
	for range 3000 {
		l := rightStmts(r, 2)
		progs = append(progs, rightProg(r))
		stmts = append(stmts, l, copied(l))
	}
	apart(t, stmts, tree.PutStmts, tree.SameStmts)
	apart(t, progs, tree.Put, tree.Same)
}

// TestPutSame: P3.5, of trees that are the same one text is put.
func TestPutSame(t *testing.T) {
	r := rand.New(rand.NewSource(11))
	for range 1000 {
		l := rightStmts(r, 3)
		if m := copied(l); !tree.SameStmts(l, m) || tree.PutStmts(l) != tree.PutStmts(m) {
			t.Errorf("two texts: %v", l)
		}
	}
}
