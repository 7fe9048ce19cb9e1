package check_test

import (
	"math"
	"slices"
	"strconv"
	"strings"
	"testing"

	"billhook/api"
	"billhook/check"
	"billhook/parse"
	"billhook/tree"
)

const (
	low  = math.MinInt64
	high = math.MaxInt64
)

const sample = `func f(a, b) {
	var x, l[3];
	x = a + l[b];
	l[x] = l[l[a] + x] - b;
	x = g(a);
	while (l[x]) { if (a) { break; } else { continue; } x = read(); }
	return x;
}
func g(a) {
	var y;
	y = f(a, y);
	y = g(y);
	return y;
}
func main() {
	var i, k, l[64];
	@1 i = read();
	while (i > 0) { @2 if (l[i]) { @3 k = f(i, k); } else { @1000000 l[k] = i; } i = i - 1; }
	@5 assert(k);
	return k;
}`

func num(n int64) tree.Expr                 { return tree.Expr{Kind: tree.Num, N: n} }
func v(name string) tree.Expr               { return tree.Expr{Kind: tree.Var, Name: name} }
func index(a string, i tree.Expr) tree.Expr { return kids(tree.Expr{Kind: tree.Index, Name: a}, i) }
func un(op string, e tree.Expr) tree.Expr   { return kids(tree.Expr{Kind: tree.Unary, Op: op}, e) }

func kids(e tree.Expr, l ...tree.Expr) tree.Expr {
	e.Kids = l
	return e
}

func bin(a tree.Expr, op string, b tree.Expr) tree.Expr {
	return kids(tree.Expr{Kind: tree.Binary, Op: op}, a, b)
}

func of(kind int, l ...tree.Expr) tree.Stmt { return tree.Stmt{Kind: kind, E: l} }

func loop(e tree.Expr, body ...tree.Stmt) tree.Stmt {
	return tree.Stmt{Kind: tree.While, E: []tree.Expr{e}, Body: body}
}

func branch(e tree.Expr, body, other []tree.Stmt) tree.Stmt {
	return tree.Stmt{Kind: tree.If, E: []tree.Expr{e}, Body: body, Else: other}
}

func block(l ...tree.Stmt) []tree.Stmt { return l }

func prog(l ...tree.Func) tree.Prog { return tree.Prog{Funcs: l} }

// mainOf is a program of main alone, with such statements.
func mainOf(l ...tree.Stmt) tree.Prog { return prog(tree.Func{Name: "main", Body: l}) }

func parsed(t *testing.T, s string) tree.Prog {
	t.Helper()
	p, at, e := parse.Parse(s)
	if e != api.OK {
		t.Fatalf("%q: error %d at %d", s, e, at)
	}
	return p
}

// hold fails, if something else is told of p; or of Criterion, which must tell
// the same error.
func hold(t *testing.T, p tree.Prog, want api.Errno, place int) {
	t.Helper()
	if e, where := check.Check(p); e != want || where != place {
		t.Errorf("error %d at %d, not %d at %d:\n%.600s", e, where, want, place, tree.Put(p))
	}
	if want == api.OK {
		return
	}
	for _, tag := range []int{0, 1, low} {
		if e := check.Criterion(p, tag, []string{"?"}); e != want {
			t.Errorf("error %d, not %d, of a criterion", e, want)
		}
	}
}

func text(t *testing.T, s string, want api.Errno, place int) {
	t.Helper()
	hold(t, parsed(t, s), want, place)
}

// TestFind: P5.1, the first Func of a name, whatever the program is.
func TestFind(t *testing.T) {
	p := prog(tree.Func{Name: "f"}, tree.Func{Name: "g", Params: []string{"a"}}, tree.Func{Name: "f", Params: []string{"b"}}, tree.Func{}, tree.Func{Name: "main"}, tree.Func{Name: "if"}, tree.Func{Name: "main"})
	for name, want := range map[string]int{"f": 0, "g": 1, "": 3, "main": 4, "if": 5, "a": -1, "F": -1, "f ": -1, "mai": -1, "mainx": -1, "\xff": -1} {
		if got := check.Find(p, name); got != want {
			t.Errorf("Find of %q is %d, not %d", name, got, want)
		}
	}
	for _, none := range []tree.Prog{{}, {Funcs: []tree.Func{}}} {
		if check.Find(none, "main") != -1 || check.Find(none, "") != -1 {
			t.Error("found in nothing")
		}
	}
}

// TestSize: P5.1, of Params ahead of Vars, and of the first of these.
func TestSize(t *testing.T) {
	f := tree.Func{Name: "f", Params: []string{"a", "both", "a"}, Vars: []tree.Decl{
		{Name: "x"}, {Name: "l", Size: 3}, {Name: "both", Size: 9}, {Name: "l", Size: 4}, {Name: "x", Size: 5}, {Name: "big", Size: high}, {Name: "below", Size: -2}, {Name: "", Size: 6}}}
	for _, c := range []struct {
		name  string
		size  int
		known bool
	}{{"a", 0, true}, {"both", 0, true}, {"x", 0, true}, {"l", 3, true}, {"big", high, true}, {"below", -2, true}, {"", 6, true}, {"f", 0, false}, {"A", 0, false}, {"lx", 0, false}, {"b", 0, false}} {
		if size, known := check.Size(f, c.name); size != c.size || known != c.known {
			t.Errorf("Size of %q is %d, %t, not %d, %t", c.name, size, known, c.size, c.known)
		}
	}
	if size, known := check.Size(tree.Func{}, ""); size != 0 || known {
		t.Error("known in nothing")
	}
	if size, known := check.Size(tree.Func{Params: []string{""}}, ""); size != 0 || !known {
		t.Error("not known")
	}
}

// TestCheckRight: P5.2, what may run.
func TestCheckRight(t *testing.T) {
	for _, s := range []string{
		sample, "func main() { }", "func main() { var main; main = main; }", "func f() { } func main() { }",
		"func f(f, main) { var g; f = f(main, g); } func g() { var f; f = g(); } func main() { var f, g; f = g(); g = f(f, -1); }",
		"func f() { var x; x = g(x); } func g(a) { } func main() { }",
		"func f(a) { a = 1; return a; } func main() { var a; a = f(a); }",
		"func main() { var l[1], m[64]; l[m[l[0]]] = m[-1] + l[64]; }",
	} {
		text(t, s, api.OK, -1)
	}
}

// TestCheckArg: P5.2, trees that are not right.
func TestCheckArg(t *testing.T) {
	for _, s := range []tree.Stmt{
		{Kind: 10}, {Kind: -1}, {Kind: tree.Break, Tag: -1}, {Kind: tree.Return, E: []tree.Expr{num(1), num(1)}}, {Kind: tree.While, E: []tree.Expr{v("if")}},
		{Kind: tree.Break, Tag: 1000001}, {Kind: tree.Assign, Name: "read", E: []tree.Expr{num(0)}}, {Kind: tree.If}, of(tree.Return, tree.Expr{Kind: 9}),
	} {
		hold(t, mainOf(s), api.ErrArg, -1)
		hold(t, mainOf(loop(num(1), branch(num(1), nil, block(s)))), api.ErrArg, -1)
		hold(t, prog(tree.Func{Name: "f", Body: block(s)}, tree.Func{Name: "main"}), api.ErrArg, -1)
	}
	for _, f := range []tree.Func{{}, {Name: "1"}, {Name: "f", Params: []string{""}}, {Name: "f", Vars: []tree.Decl{{}}}, {Name: "f", Vars: []tree.Decl{{Name: "a", Size: -1}}}, {Name: strings.Repeat("a", 25)}} {
		hold(t, prog(f, tree.Func{Name: "main"}), api.ErrArg, -1)
		hold(t, prog(f), api.ErrArg, -1)
	}
}

// many are so many Funcs, and main behind them.
func many(n int) (p tree.Prog) {
	for i := range n {
		p.Funcs = append(p.Funcs, tree.Func{Name: "f" + strconv.Itoa(i)})
	}
	p.Funcs = append(p.Funcs, tree.Func{Name: "main"})
	return p
}

// TestCheckBigWhole: P5.2, no Func, too many of them, too many statements.
func TestCheckBigWhole(t *testing.T) {
	hold(t, tree.Prog{}, api.ErrBig, -1)
	hold(t, prog(), api.ErrBig, -1)
	hold(t, many(api.MaxFuncs-1), api.OK, -1)
	hold(t, many(api.MaxFuncs), api.ErrBig, -1)
	hold(t, many(500), api.ErrBig, -1)
	one := of(tree.Return, num(0))
	for extra, want := range map[int]api.Errno{-1: api.OK, 0: api.OK, 1: api.ErrBig, 1000: api.ErrBig} {
		n := api.MaxNodes + extra
		hold(t, mainOf(slices.Repeat(block(one), n)...), want, -1)
		hold(t, mainOf(loop(num(1), slices.Repeat(block(of(tree.Break)), n-1)...)), want, -1)
		half := slices.Repeat(block(one), n/2)
		rest := slices.Repeat(block(one), n-n/2-2)
		hold(t, mainOf(one, branch(num(1), half, rest)), want, -1)
		hold(t, prog(tree.Func{Name: "f", Body: half}, tree.Func{Name: "g", Body: block(one)}, tree.Func{Name: "main", Body: append(block(one), rest...)}), want, -1)
	}
}

// TestCheckNamesOfFuncs: P5.2, two Funcs of one Name, and what main must be.
func TestCheckNamesOfFuncs(t *testing.T) {
	for _, s := range []string{
		"func f() { } func f() { } func main() { }", "func f() { } func g() { } func f(a) { } func main() { }",
		"func main() { } func main() { }", "func main() { } func f() { } func main() { }", "func f() { } func f() { }", "func f() { } func f(a) { } func main(a) { }",
	} {
		text(t, s, api.ErrName, -1)
	}
	for _, s := range []string{
		"func f() { }", "func Main() { }", "func main() { } func f() { }", "func main(a) { }", "func main(a, b) { }", "func f() { } func main(f) { }", "func main() { } func main1(a) { }",
	} {
		text(t, s, api.ErrCall, -1)
	}
}

// names are so many, with commas between.
func names(letter string, n int) string {
	l := []string{}
	for i := range n {
		l = append(l, letter+strconv.Itoa(i))
	}
	return strings.Join(l, ", ")
}

// TestCheckVars: P5.2, how many names a Func has, how great they are, and that
// they are not the same.
func TestCheckVars(t *testing.T) {
	const most = api.MaxVars
	for extra, want := range map[int]api.Errno{0: api.OK, 1: api.ErrBig} {
		place := -1
		if want != api.OK {
			place = 1
		}
		for params := range most + extra + 1 {
			list := ""
			if params < most+extra {
				list = "var " + names("x", most+extra-params) + ";"
			}
			text(t, "func f() { } func g("+names("a", params)+") { "+list+" } func main() { }", want, place)
		}
		text(t, "func f() { } func main() { var "+names("x", most+extra)+"; }", want, place)
	}
	for s, want := range map[string]api.Errno{
		"a[1]": api.OK, "a[64]": api.OK, "a[65]": api.ErrBig, "a, b[2], c[65]": api.ErrBig, "a[1000000], b": api.ErrBig, "a[65], a": api.ErrBig,
		"a, a": api.ErrName, "a, b, a[3]": api.ErrName, "a[1], a[1]": api.ErrName, "p": api.ErrName, "a, p[2]": api.ErrName, "q, r[2]": api.ErrName, "P, Q": api.OK, "g, main": api.OK,
	} {
		place := -1
		if want != api.OK {
			place = 1
		}
		text(t, "func f() { } func g(p, q) { var "+s+"; } func main() { }", want, place)
		text(t, "func f() { } func main() { var p, q; } func main1() { var "+s+"; }", api.ErrCall, -1)
	}
	text(t, "func f(a, b, a) { } func main() { }", api.ErrName, 0)
	text(t, "func f(a, b) { var c, a; } func main() { var z, z; }", api.ErrName, 0)
	text(t, "func f(a, b) { var c, d; } func main() { var z, z; }", api.ErrName, 1)
	p := many(0)
	p.Funcs[0].Vars = []tree.Decl{{Name: "a", Size: high}}
	hold(t, p, api.ErrBig, 0)
}

// holdBody holds a body of a Func that has the numbers n and p, and the array
// l, by itself and within others; at main, and at a Func ahead of it.
func holdBody(t *testing.T, body string, want api.Errno) {
	t.Helper()
	const ahead = "func f(a, b) { return a; } func z() { var l; return 0; } "
	for _, around := range []string{"BODY", "n = 1; BODY", "BODY n = 1;", "if (n) { BODY }", "if (n) { n = 1; } else { if (n) { BODY } }", "if (p) { BODY } n = 2;"} {
		s := strings.ReplaceAll(around, "BODY", body)
		in, at := -1, -1
		if want != api.OK {
			in, at = 2, 3
		}
		text(t, ahead+"func h(p) { var n, l[3]; "+s+" } func main() { }", want, in)
		text(t, ahead+"func h(x) { } func main() { var n, l[3], p; "+s+" }", want, at)
	}
}

// TestCheckTarget: P5.2, what a statement sets.
func TestCheckTarget(t *testing.T) {
	for _, s := range []string{"NAME = 1;", "NAME = read();", "NAME = z();", "NAME = f(n, 1);"} {
		for name, want := range map[string]api.Errno{"n": api.OK, "p": api.OK, "l": api.ErrType, "m": api.ErrName, "a": api.ErrName, "f": api.ErrName, "main": api.ErrName, "N": api.ErrName} {
			holdBody(t, strings.ReplaceAll(s, "NAME", name), want)
		}
	}
	for name, want := range map[string]api.Errno{"l": api.OK, "n": api.ErrType, "p": api.ErrType, "m": api.ErrName, "a": api.ErrName} {
		holdBody(t, name+"[0] = 1;", want)
		holdBody(t, name+"[n] = p;", want)
	}
}

// TestCheckCallee: P5.2, what a statement calls.
func TestCheckCallee(t *testing.T) {
	for s, want := range map[string]api.Errno{
		"f(1, n)": api.OK, "f(l[f1], n)": api.ErrName, "z()": api.OK, "h(n)": api.OK, "f()": api.ErrCall, "f(1)": api.ErrCall, "f(1, 2, 3)": api.ErrCall, "z(1)": api.ErrCall, "h()": api.ErrCall,
		"h(1, 1)": api.ErrCall, "main()": api.ErrCall, "main(1)": api.ErrCall, "n()": api.ErrName, "l(1)": api.ErrName, "F(1, n)": api.ErrName, "g()": api.ErrName,
	} {
		holdBody(t, "n = "+s+";", want)
	}
	text(t, "func main() { var a; a = main(); }", api.ErrCall, 0)
	text(t, "func f(a) { a = f(f); } func main() { }", api.ErrName, 0)
}

// TestCheckPlaces: P5.2, each Var and each Index of E.
func TestCheckPlaces(t *testing.T) {
	for _, s := range []string{
		"n = EXPR;", "l[EXPR] = 1;", "l[1] = EXPR;", "n = f(EXPR, 1);", "n = f(1, EXPR);", "if (EXPR) { }", "while (EXPR) { }", "return EXPR;", "assert(EXPR);",
		"if (EXPR) { } else { n = 1; }", "n = -EXPR;", "n = p + (EXPR);", "n = (EXPR) + p;", "n = l[EXPR];", "n = l[!(1 < (EXPR) * 2)];",
	} {
		for e, want := range map[string]api.Errno{
			"n": api.OK, "p": api.OK, "l[n]": api.OK, "7": api.OK, "l[l[n] - p]": api.OK, "m": api.ErrName, "a": api.ErrName, "main": api.ErrName, "l": api.ErrType, "n[0]": api.ErrType, "p[0]": api.ErrType, "m[0]": api.ErrName,
			"l + m": api.ErrType, "m + l": api.ErrName, "n[m]": api.ErrType, "m[l]": api.ErrName, "l[m + l]": api.ErrName, "l[l] + m": api.ErrType, "l[0] + m[l] + l": api.ErrName, "n - l * m": api.ErrType, "(n < m) == (l < n)": api.ErrName, "l[n[m[l]]]": api.ErrType,
		} {
			holdBody(t, strings.ReplaceAll(s, "EXPR", e), want)
		}
	}
	holdBody(t, "l[l] = m;", api.ErrType)
	holdBody(t, "l[m] = l;", api.ErrName)
	holdBody(t, "n = f(n, l, m);", api.ErrCall)
	holdBody(t, "n = f(l, m);", api.ErrType)
	holdBody(t, "n = f(m, l);", api.ErrName)
}

// TestCheckJump: P5.2, a jump within no While.
func TestCheckJump(t *testing.T) {
	for _, jump := range []string{"break;", "continue;"} {
		for s, want := range map[string]api.Errno{
			"JUMP": api.ErrJump, "if (n) { JUMP }": api.ErrJump, "if (n) { } else { JUMP }": api.ErrJump, "while (n) { } JUMP": api.ErrJump, "JUMP while (n) { }": api.ErrJump, "while (n) { JUMP } JUMP": api.ErrJump,
			"while (n) { JUMP }": api.OK, "while (n) { if (n) { JUMP } }": api.OK, "while (n) { if (n) { } else { JUMP } JUMP }": api.OK, "while (n) { while (n) { } JUMP }": api.OK, "while (n) { while (n) { JUMP } JUMP }": api.OK,
			"if (n) { while (n) { JUMP JUMP } }": api.OK, "while (n) { if (n) { JUMP } } if (n) { JUMP }": api.ErrJump,
		} {
			holdBody(t, strings.ReplaceAll(s, "JUMP", jump), want)
		}
	}
}

// TestCheckTag: P5.2, tags stand in main, and each once.
func TestCheckTag(t *testing.T) {
	for s, want := range map[string]api.Errno{
		"@1 n = 1;": api.OK, "@1 n = 1; @2 n = 1;": api.OK, "@1000000 if (n) { @1 n = 1; } else { @2 n = 1; }": api.OK, "@1 n = 1; @1 n = 2;": api.ErrTag, "@7 while (n) { @7 break; }": api.ErrTag,
		"@1 n = 1; @2 n = 2; n = 3; @1 n = 1;": api.ErrTag, "if (n) { @3 n = 1; } else { @3 n = 1; }": api.ErrTag, "while (n) { while (n) { @9 break; } } @9 assert(n);": api.ErrTag,
	} {
		place := -1
		if want != api.OK {
			place = 1
		}
		text(t, "func f() { } func main() { var n; "+s+" }", want, place)
		text(t, "func f() { var n; "+s+" } func main() { }", api.ErrTag, 0)
	}
	for _, tag := range []int{1, 500, 1000000} {
		s := tree.Stmt{Kind: tree.Break, Tag: tag}
		hold(t, mainOf(loop(num(1), s)), api.OK, -1)
		hold(t, mainOf(loop(num(1), s, s)), api.ErrTag, 0)
		hold(t, prog(tree.Func{Name: "f"}, tree.Func{Name: "g", Body: block(loop(num(1), s))}, tree.Func{Name: "main"}), api.ErrTag, 1)
	}
}

// TestCriterion: P5.3, a tag that is there, and numbers of main's.
func TestCriterion(t *testing.T) {
	p := parsed(t, sample)
	for tag, want := range map[int]api.Errno{1: api.OK, 2: api.OK, 3: api.OK, 5: api.OK, 1000000: api.OK, 4: api.ErrTag, 0: api.ErrTag, -1: api.ErrTag, 6: api.ErrTag, 1000001: api.ErrTag, low: api.ErrTag, high: api.ErrTag, 1<<32 + 1: api.ErrTag} {
		for _, vars := range [][]string{nil, {}, {"i"}, {"k", "i"}, {"i", "i", "k", "i"}} {
			if e := check.Criterion(p, tag, vars); e != want {
				t.Errorf("error %d, not %d, of tag %d", e, want, tag)
			}
		}
		for _, vars := range [][]string{{"l"}, {"x"}, {""}} {
			if e := check.Criterion(p, tag, vars); (e == api.ErrTag) != (want == api.ErrTag) || e == api.OK {
				t.Errorf("error %d of tag %d and %q", e, tag, vars)
			}
		}
	}
	for _, c := range []struct {
		vars []string
		want api.Errno
	}{
		{[]string{"l"}, api.ErrType}, {[]string{"x"}, api.ErrName}, {[]string{"a"}, api.ErrName}, {[]string{"f"}, api.ErrName}, {[]string{"main"}, api.ErrName}, {[]string{""}, api.ErrName}, {[]string{"I"}, api.ErrName}, {[]string{"i "}, api.ErrName},
		{[]string{"i", "l", "x"}, api.ErrType}, {[]string{"i", "x", "l"}, api.ErrName}, {[]string{"i", "k", "l"}, api.ErrType}, {[]string{"i", "k", "y"}, api.ErrName}, {slices.Repeat([]string{"i"}, 100000), api.OK}, {append(slices.Repeat([]string{"k"}, 1000), "l"), api.ErrType},
	} {
		if e := check.Criterion(p, 3, c.vars); e != c.want {
			t.Errorf("error %d, not %d, of %.40q", e, c.want, c.vars)
		}
	}
	if e := check.Criterion(parsed(t, "func main() { break; }"), 1, nil); e != api.ErrJump {
		t.Errorf("error %d of what may not run", e)
	}
	if e := check.Criterion(parsed(t, "func main() { var a; a = 1; }"), 1, nil); e != api.ErrTag {
		t.Errorf("error %d where there is no tag", e)
	}
	if e := check.Criterion(tree.Prog{}, 0, []string{"x"}); e != api.ErrBig {
		t.Errorf("error %d of nothing", e)
	}
}
