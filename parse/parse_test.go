package parse_test

import (
	"math"
	"strings"
	"testing"

	"billhook/api"
	"billhook/parse"
	"billhook/tree"
)

const (
	low  = math.MinInt64
	high = math.MaxInt64
)

// Written out once more, so that the tests do not hang on the program.
var levels = map[string]int{
	"||": 1, "&&": 2, "|": 3, "^": 4, "&": 5, "==": 6, "!=": 6, "<": 7, "<=": 7, ">": 7, ">=": 7,
	"<<": 8, ">>": 8, "+": 9, "-": 9, "*": 10, "/": 10, "%": 10,
}

var ops = []string{"||", "&&", "|", "^", "&", "==", "!=", "<", "<=", ">", ">=", "<<", ">>", "+", "-", "*", "/", "%"}

var unaries = []string{"-", "~", "!"}

func num(n int64) tree.Expr   { return tree.Expr{Kind: tree.Num, N: n} }
func v(name string) tree.Expr { return tree.Expr{Kind: tree.Var, Name: name} }

func index(a string, i tree.Expr) tree.Expr {
	return tree.Expr{Kind: tree.Index, Name: a, Kids: []tree.Expr{i}}
}

func un(op string, e tree.Expr) tree.Expr {
	return tree.Expr{Kind: tree.Unary, Op: op, Kids: []tree.Expr{e}}
}

func bin(a tree.Expr, op string, b tree.Expr) tree.Expr {
	return tree.Expr{Kind: tree.Binary, Op: op, Kids: []tree.Expr{a, b}}
}

func of(kind int, l ...tree.Expr) tree.Stmt { return tree.Stmt{Kind: kind, E: l} }

func assign(name string, e tree.Expr) tree.Stmt {
	return tree.Stmt{Kind: tree.Assign, Name: name, E: []tree.Expr{e}}
}

func store(name string, i, e tree.Expr) tree.Stmt {
	return tree.Stmt{Kind: tree.Store, Name: name, E: []tree.Expr{i, e}}
}

func input(name string) tree.Stmt { return tree.Stmt{Kind: tree.Read, Name: name} }

func call(name, f string, args ...tree.Expr) tree.Stmt {
	return tree.Stmt{Kind: tree.Call, Name: name, Func: f, E: args}
}

func branch(e tree.Expr, body, other []tree.Stmt) tree.Stmt {
	return tree.Stmt{Kind: tree.If, E: []tree.Expr{e}, Body: body, Else: other}
}

func loop(e tree.Expr, body ...tree.Stmt) tree.Stmt {
	return tree.Stmt{Kind: tree.While, E: []tree.Expr{e}, Body: body}
}

func tagged(n int, s tree.Stmt) tree.Stmt {
	s.Tag = n
	return s
}

func block(l ...tree.Stmt) []tree.Stmt { return l }

func mainOf(l ...tree.Stmt) tree.Prog {
	return tree.Prog{Funcs: []tree.Func{{Name: "main", Body: l}}}
}

// nothing tells whether x, or p, is as it is where an error is told.
func nothing(p tree.Prog) bool { return p.Funcs == nil }
func nothingExpr(x tree.Expr) bool {
	return x.Kind == 0 && x.Op+x.Name == "" && x.N == 0 && x.Kids == nil
}

// marked takes the mark out of s: no word has it, so it tells a place.
func marked(t *testing.T, s string) (string, int) {
	t.Helper()
	at := strings.Index(s, "$")
	if at < 0 {
		t.Fatalf("no mark in %q", s)
	}
	return s[:at] + s[at+1:], at
}

// program fails, if s is not parsed as just p.
func program(t *testing.T, s string, p tree.Prog) {
	t.Helper()
	if got, at, e := parse.Parse(s); e != api.OK || at != len(s) || !tree.Same(got, p) {
		t.Errorf("Parse(%.300q): error %d, at %d of %d,\n%s\nasked is\n%s", s, e, at, len(s), tree.Put(got), tree.Put(p))
	}
}

// stmts fails, if s, as a body, is not parsed as just l.
func stmts(t *testing.T, s string, l ...tree.Stmt) {
	t.Helper()
	program(t, "func main() {"+s+"}", mainOf(l...))
}

// expr fails, if s is not parsed as just x, alone and where one may stand.
func expr(t *testing.T, s string, x tree.Expr) {
	t.Helper()
	if got, at, e := parse.Expr(s); e != api.OK || at != len(s) || !tree.SameExpr(got, x) {
		t.Errorf("Expr(%.300q): error %d, at %d of %d, %.300q; asked is %.300q", s, e, at, len(s), tree.PutExpr(got), tree.PutExpr(x))
	}
	stmts(t, "a="+s+";", assign("a", x))
	stmts(t, "a["+s+"]="+s+";", store("a", x, x))
	stmts(t, "if("+s+"){}while("+s+"){}return "+s+";assert("+s+");", branch(x, nil, nil), loop(x), of(tree.Return, x), of(tree.Assert, x))
	stmts(t, "a=f("+s+","+s+");", call("a", "f", x, x))
}

// refused fails, if not just that error is told of s as a program, there.
func refused(t *testing.T, s string, at int, e api.Errno) {
	t.Helper()
	if p, gotAt, got := parse.Parse(s); got != e || gotAt != at || !nothing(p) {
		t.Errorf("Parse(%.300q): error %d at %d, %t; asked is error %d at %d", s, got, gotAt, nothing(p), e, at)
	}
}

// refusedExpr is so of an expression.
func refusedExpr(t *testing.T, s string, at int, e api.Errno) {
	t.Helper()
	if x, gotAt, got := parse.Expr(s); got != e || gotAt != at || !nothingExpr(x) {
		t.Errorf("Expr(%.300q): error %d at %d, %t; asked is error %d at %d", s, got, gotAt, nothingExpr(x), e, at)
	}
}

// TestFunctions: P4.1, functions, their names, and what they declare.
func TestFunctions(t *testing.T) {
	program(t, "func main() { }", mainOf())
	program(t, "func main(){}", mainOf())
	program(t, "\n\tfunc\nmain\r(\n)\t{ } \n", mainOf())
	f := func(f tree.Func) tree.Prog { return tree.Prog{Funcs: []tree.Func{f}} }
	program(t, "func f(a) { }", f(tree.Func{Name: "f", Params: []string{"a"}}))
	program(t, "func f(a, b, a) { }", f(tree.Func{Name: "f", Params: []string{"a", "b", "a"}}))
	program(t, "func f() { var x; }", f(tree.Func{Name: "f", Vars: []tree.Decl{{Name: "x"}}}))
	program(t, "func f() { var x, y[1], z[1000000], x; }", f(tree.Func{Name: "f", Vars: []tree.Decl{{Name: "x"}, {Name: "y", Size: 1}, {Name: "z", Size: 1000000}, {Name: "x"}}}))
	program(t, "func f(a) { var b; a = b; }", f(tree.Func{Name: "f", Params: []string{"a"}, Vars: []tree.Decl{{Name: "b"}}, Body: block(assign("a", v("b")))}))
	program(t, "func f(){}func g(x){}func f(){break;}", tree.Prog{Funcs: []tree.Func{{Name: "f"}, {Name: "g", Params: []string{"x"}}, {Name: "f", Body: block(of(tree.Break))}}})
	long := strings.Repeat("a", api.MaxName)
	program(t, "func "+long+"("+long+"){var "+long+"[64];}", f(tree.Func{Name: long, Params: []string{long}, Vars: []tree.Decl{{Name: long, Size: 64}}}))
	many, names := tree.Func{Name: "f"}, []string{}
	for range 1000 {
		names = append(names, "p")
		many.Params = append(many.Params, "p")
		many.Vars = append(many.Vars, tree.Decl{Name: "p"})
	}
	all := strings.Join(names, ",")
	program(t, "func f("+all+"){var "+all+";}", f(many))
}

// TestStatements: P4.1, each kind of statement by hand.
func TestStatements(t *testing.T) {
	stmts(t, "")
	stmts(t, "a = read();", input("a"))
	stmts(t, "a=read ( ) ;", input("a"))
	stmts(t, "a = f();", call("a", "f"))
	stmts(t, "a = f (b);", call("a", "f", v("b")))
	stmts(t, "a = a(1, -2, b[3], (4));", call("a", "a", num(1), num(-2), index("b", num(3)), num(4)))
	stmts(t, "a = b;", assign("a", v("b")))
	stmts(t, "a = (f);", assign("a", v("f")))
	stmts(t, "a = b + 1;", assign("a", bin(v("b"), "+", num(1))))
	stmts(t, "a = b[1];", assign("a", index("b", num(1))))
	stmts(t, "a[1] = 2;", store("a", num(1), num(2)))
	stmts(t, "a[a[0]] = a[1];", store("a", index("a", num(0)), index("a", num(1))))
	stmts(t, "if (a) { }", branch(v("a"), nil, nil))
	stmts(t, "if (a) { } else { }", branch(v("a"), nil, nil))
	stmts(t, "if (a) { break; }", branch(v("a"), block(of(tree.Break)), nil))
	stmts(t, "if (a) { } else { break; }", branch(v("a"), nil, block(of(tree.Break))))
	stmts(t, "if (a) { break; } else { continue; a = 1; }", branch(v("a"), block(of(tree.Break)), block(of(tree.Continue), assign("a", num(1)))))
	stmts(t, "if (a) { if (b) { } else { break; } } else { if (c) { } }", branch(v("a"), block(branch(v("b"), nil, block(of(tree.Break)))), block(branch(v("c"), nil, nil))))
	stmts(t, "while (a) { }", loop(v("a")))
	stmts(t, "while (a) { while (b) { break; } continue; }", loop(v("a"), loop(v("b"), of(tree.Break)), of(tree.Continue)))
	stmts(t, "break;continue;", of(tree.Break), of(tree.Continue))
	stmts(t, "return 1;", of(tree.Return, num(1)))
	stmts(t, "return-1;", of(tree.Return, num(-1)))
	stmts(t, "assert(a);", of(tree.Assert, v("a")))
	stmts(t, "assert((a));", of(tree.Assert, v("a")))
	stmts(t, "a = 1; a = 1; b = read();", assign("a", num(1)), assign("a", num(1)), input("b"))
}

// TestTags: P4.1, a Tag ahead of each kind of statement, 1 to 1000000.
func TestTags(t *testing.T) {
	for text, s := range map[string]tree.Stmt{
		"a = 1;": assign("a", num(1)), "a[0] = 1;": store("a", num(0), num(1)), "a = read();": input("a"), "a = f(1);": call("a", "f", num(1)),
		"if (a) { break; }": branch(v("a"), block(of(tree.Break)), nil), "while (a) { break; }": loop(v("a"), of(tree.Break)),
		"break;": of(tree.Break), "continue;": of(tree.Continue), "return 1;": of(tree.Return, num(1)), "assert(1);": of(tree.Assert, num(1)),
	} {
		stmts(t, text, s)
		stmts(t, "@1 "+text, tagged(1, s))
		stmts(t, "@1000000 "+text, tagged(1000000, s))
		stmts(t, "@7\n"+text+"@7"+text+text, tagged(7, s), tagged(7, s), s)
		stmts(t, "while (a) { @3 "+text+"} if (b) { @4 "+text+"} else { @5 "+text+"}", loop(v("a"), tagged(3, s)), branch(v("b"), block(tagged(4, s)), block(tagged(5, s))))
		refused(t, "func main() { @0 "+text+" }", 14, api.ErrParse)
		refused(t, "func main() { @1 @1 "+text+" }", 17, api.ErrParse)
		refused(t, "func main() { @1000001 "+text+" }", 14, api.ErrLex)
	}
}

// TestOperands: P4.2, each kind of operand by hand, and numbers at their ends.
func TestOperands(t *testing.T) {
	expr(t, "0", num(0))
	expr(t, "9223372036854775807", num(high))
	expr(t, "-9223372036854775808", num(low))
	expr(t, "- \n 9223372036854775808", num(low))
	expr(t, "-9223372036854775807", num(-high))
	expr(t, "-1", num(-1))
	expr(t, "- 1", num(-1))
	expr(t, "-0", num(0))
	expr(t, "--0", un("-", num(0)))
	expr(t, "--1", un("-", num(-1)))
	expr(t, "---1", un("-", un("-", num(-1))))
	expr(t, "--9223372036854775808", un("-", num(low)))
	expr(t, "-(1)", un("-", num(1)))
	expr(t, "-(-1)", un("-", num(-1)))
	expr(t, "(-1)", num(-1))
	expr(t, "~1", un("~", num(1)))
	expr(t, "!-1", un("!", num(-1)))
	expr(t, "-~!-a", un("-", un("~", un("!", un("-", v("a"))))))
	expr(t, "a", v("a"))
	expr(t, "((a))", v("a"))
	expr(t, "a[1]", index("a", num(1)))
	expr(t, "a[b[c]]", index("a", index("b", v("c"))))
	expr(t, "a [ b + 1 ]", index("a", bin(v("b"), "+", num(1))))
	expr(t, "-a[1]", un("-", index("a", num(1))))
	expr(t, "-(a + 1)", un("-", bin(v("a"), "+", num(1))))
	expr(t, "-a + 1", bin(un("-", v("a")), "+", num(1)))
	expr(t, "!a == b", bin(un("!", v("a")), "==", v("b")))
	expr(t, "a-1", bin(v("a"), "-", num(1)))
	expr(t, "1-1", bin(num(1), "-", num(1)))
	expr(t, "1--1", bin(num(1), "-", num(-1)))
	expr(t, "1---1", bin(num(1), "-", un("-", num(-1))))
	expr(t, "a[1]-1", bin(index("a", num(1)), "-", num(1)))
	expr(t, "(a)-1", bin(v("a"), "-", num(1)))
	expr(t, "1*-9223372036854775808", bin(num(1), "*", num(low)))
	expr(t, "1 + 2 * 3", bin(num(1), "+", bin(num(2), "*", num(3))))
}

// TestLevels: P4.2, of each two and each three operations which ones bind
// first, said by their levels alone.
func TestLevels(t *testing.T) {
	a, b, c, d := v("a"), v("b"), v("c"), v("d")
	for _, o := range ops {
		expr(t, "a"+o+"b", bin(a, o, b))
		for _, p := range ops {
			left := levels[o] >= levels[p]
			want := bin(a, o, bin(b, p, c))
			if left {
				want = bin(bin(a, o, b), p, c)
			}
			expr(t, "a "+o+" b "+p+" c", want)
			expr(t, "a "+o+" (b "+p+" c)", bin(a, o, bin(b, p, c)))
			expr(t, "(a "+o+" b) "+p+" c", bin(bin(a, o, b), p, c))
			for _, u := range unaries {
				expr(t, u+"a "+o+" "+u+"b "+p+" c", tree.Expr{Kind: tree.Binary, Op: want.Op, Kids: changed(want.Kids, u)})
			}
			for _, q := range ops {
				if got, _, e := parse.Expr("a" + o + "b" + p + "c" + q + "d"); e != api.OK || !tree.SameExpr(got, split([]tree.Expr{a, b, c, d}, []string{o, p, q})) {
					t.Errorf("a %s b %s c %s d: error %d, %s", o, p, q, e, tree.PutExpr(got))
				}
			}
		}
	}
}

// changed puts u ahead of a and b, wherever they stand.
func changed(l []tree.Expr, u string) (told []tree.Expr) {
	for _, e := range l {
		switch {
		case e.Kind == tree.Binary:
			e.Kids = changed(e.Kids, u)
		case e.Name != "c":
			e = un(u, e)
		}
		told = append(told, e)
	}
	return told
}

// split says from the outside in what operands, with signs between, are: what
// binds last is the rightmost one of the least level.
func split(operands []tree.Expr, signs []string) tree.Expr {
	if len(signs) == 0 {
		return operands[0]
	}
	last := 0
	for i, s := range signs {
		if levels[s] <= levels[signs[last]] {
			last = i
		}
	}
	return bin(split(operands[:last+1], signs[:last]), signs[last], split(operands[last+1:], signs[last+1:]))
}

// TestLong: P4.2, a list of operands as long as a text may be.
func TestLong(t *testing.T) {
	for _, o := range []string{"-", "+", "*", "||", "<"} {
		s := "a" + strings.Repeat(o+"a", (api.MaxText-1)/(len(o)+1))
		x, at, e := parse.Expr(s)
		if e != api.OK || at != len(s) {
			t.Fatalf("of %s: error %d at %d", o, e, at)
		}
		n := 0
		for ; x.Kind == tree.Binary; x = x.Kids[0] {
			if x.Op != o || !tree.SameExpr(x.Kids[1], v("a")) {
				t.Fatalf("of %s: %v", o, x.Op)
			}
			n++
		}
		if !tree.SameExpr(x, v("a")) || n != strings.Count(s, o) {
			t.Errorf("of %s: %d operations", o, n)
		}
	}
}

// TestExamples: the chapter's example, and a program of all kinds.
func TestExamples(t *testing.T) {
	if x, at, e := parse.Expr("1 + 2 * 3"); x.Kind != tree.Binary || x.Op != "+" || at != 9 || e != api.OK {
		t.Error(x, at, e)
	}
	program(t, `func f(a, b) {
	var x, l[3];
	l[a] = b + -1;
	return l[x];
}
func main() {
	var i, s;
	@1 i = read();
	while (i > 0) {
		if (!s) {
			break;
		} else {
			continue;
			s = 1;
		}
		@1000000 s = f(i, -(5));
	}
	assert(i - 1 <= 9223372036854775807);
}
`, tree.Prog{Funcs: []tree.Func{
		{Name: "f", Params: []string{"a", "b"}, Vars: []tree.Decl{{Name: "x"}, {Name: "l", Size: 3}}, Body: block(
			store("l", v("a"), bin(v("b"), "+", num(-1))),
			of(tree.Return, index("l", v("x"))))},
		{Name: "main", Vars: []tree.Decl{{Name: "i"}, {Name: "s"}}, Body: block(
			tagged(1, input("i")),
			loop(bin(v("i"), ">", num(0)),
				branch(un("!", v("s")), block(of(tree.Break)), block(of(tree.Continue), assign("s", num(1)))),
				tagged(1000000, call("s", "f", v("i"), un("-", num(5))))),
			of(tree.Assert, bin(bin(v("i"), "-", num(1)), "<=", num(high))))},
	}})
}
