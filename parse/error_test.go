package parse_test

import (
	"strings"
	"testing"

	"billhook/api"
	"billhook/parse"
)

// wrongPrograms are marked, with a dollar, where the first word stands that may
// not, or where the words end too early.
var wrongPrograms = []string{
	"$", " \n$", "$x", "$}", "$1", "$@1 func f() {}", "$Func f() {}",
	"func$", "func $1() {}", "func $if() {}", "func $func() {}", "func $() {}", "func $@1() {}", "func f$", "func f ${}", "func f $[] {}",
	"func f($,) {}", "func f($1) {}", "func f($if) {}", "func f($(a)) {}", "func f(a $b) {}", "func f(a,$) {}", "func f(a,$, b) {}", "func f(a$; b) {}", "func f(a$[1]) {}", "func f(a$", "func f(a,$", "func f($",
	"func f()$", "func f() $;", "func f() $x = 1;", "func f() $(", "func f() {$", "func f() { $)", "func f() { $func g() {} }",
	"func f() {}$}", "func f() {} $x = 1;", "func f() {} $;", "func f() {} func$", "func f() {} $@1", "func f() {} $var x;",
}

// wrongVars are so, where a body begins.
var wrongVars = []string{
	"var $;", "var $1;", "var $if;", "var a $b;", "var a,$;", "var a,$,b;", "var a; $var b;", "var a $= 1;", "var a[$0];", "var a[$1000001];", "var a[$9223372036854775808];",
	"var a[$-1];", "var a[$x];", "var a[$];", "var a[1 $2];", "var a[1 $+ 1];", "var a[1$;", "var a$];", "var a[1]$[1];", "var a[1$, 2];", "var a$(1);", "var a$", "var a[1]$", "var $",
}

// wrongBodies are so, in statements.
var wrongBodies = []string{
	"$var a;", "a = 1; $var b;",
	"a$;", "a $1;", "a$", "a $a;", "a $== 1;", "a $+ 1;", "a$();", "a $, b = 1;", "a = $;", "a = $= 1;", "a = 1$", "a = 1 $2;", "a = 1 $a;", "a = a $1;", "a = 1$, 2;", "a = b $= 1;", "a = $func;", "a = $if;", "a = 1; $;", "$;", "$1 = 2;", "$(a) = 2;", "$-a = 2;",
	"a[$] = 1;", "a[1 $= 1;", "a[1$;", "a[1] $;", "a[1] $== 1;", "a[1]$[2] = 1;", "a[1] = $;", "a[1] = $read();", "a[1] = f$(1);", "a[1] = 1$", "a[1$, 2] = 1;", "a[1]$", "a[$read] = 1;",
	"a = read$;", "a = read $+ 1;", "a = read($1);", "a = read($", "a = read()$", "a = read() $+ 1;", "a = 1 + $read();", "a = ($read());", "a = -$read();", "$read = 1;", "$read();",
	"a = f($,);", "a = f(1,$);", "a = f(1 $2);", "a = f(1$;", "a = f($;", "a = f()$", "a = f() $+ 1;", "a = f(1)$[0];", "a = f()$();", "a = f($read());", "a = f(g$());", "a = 1 + f$(1);", "a = (f$(1));", "a = -f$(1);", "a[f$(1)] = 1;", "a = f + g$(1);", "a = b[1]$(1);", "f$(1);", "a = 1$(2);", "a = (b)$(1);", "a = $if(1);",
	"if$", "if $a {}", "if ($) {}", "if (a ${}", "if (a$, b) {}", "if (a)$", "if (a) $a = 1;", "if (a) $;", "if (a) {$", "if (a) {} else$", "if (a) {} else $a = 1;", "if (a) {} else $if (b) {}", "if (a) {} else {} $else {}", "$else {}", "if (a) {}$;", "if (a) {} a = 1; $else {}", "if (a $= 1) {}", "if (f$(1)) {}",
	"while$", "while $a {}", "while ($) {}", "while (a) $a = 1;", "while (a) {$", "while (a) {} $else {}", "while (a) {}$;",
	"break$", "break $1;", "break$}", "continue$", "continue$()", "breaks$;", "return$", "return $;", "return 1$", "return 1 $2;", "return a$, b;", "return f$(1);", "return $read();",
	"assert$", "assert $a;", "assert($);", "assert(a$, b);", "assert(a)$", "assert(a) $+ 1;", "assert(a$;",
	"@1$", "@1 $;", "@1 $@2 a = 1;", "$@0 a = 1;", "@1 $1;", "@1 $else {}", "@1 $var a;", "if (a) { @1 $}", "a = $@1;", "a = 1 $@1;", "@1 a$;", "$@0", "if ($@1) {}",
	"${ a = 1; }", "$func g() {}", "$]", "$)",
}

// wrongExprs are so, as an expression alone.
var wrongExprs = []string{
	"$", "\t$", "$)", "$]", "$;", "$,", "$=", "$@1", "$if", "$read", "$*1", "$==a", "$||a", "$}", "$[1]",
	"a $b", "a $1", "1 $a", "1 $1", "a $= 1", "a$;", "a$)", "a$]", "a$}", "a$,b", "a $@1", "a $~b", "a $!b", "a$(1)", "1$[1]", "1$(1)", "(a)$[1]", "(a)$(b)", "a[1]$[2]", "-1$[2]", "a $read", "a $else",
	"a +$", "a + $;", "a + $*b", "a + $)", "a *$", "a - $@1", "a < $= b", "a && $&& b", "a - -$", "1 + $if",
	"-$", "~$", "!$", "- $;", "!$* 1", "-$*1", "~ $)", "-~$", "- $@1",
	"($", "($)", "(a$", "(a$;", "(a$]", "(a $b)", "(a$, b)", "((a)$", "(a)$)", "(a +$)", "a[$", "a[$]", "a[1$", "a[1$)", "a[1$, 2]", "a[1 +$]", "a[1$;",
	"$9223372036854775808", "1 + $9223372036854775808", "1 - $9223372036854775808", "($9223372036854775808)", "-($9223372036854775808)", "~$9223372036854775808", "!$9223372036854775808", "a[$9223372036854775808]", "-a - $9223372036854775808", "a * $9223372036854775808",
}

// TestWrongPrograms: P4.3, where the first word stands that may not.
func TestWrongPrograms(t *testing.T) {
	for _, c := range wrongPrograms {
		s, at := marked(t, c)
		refused(t, s, at, api.ErrParse)
	}
}

// TestWrongVars: P4.3, so, where the names of a body are declared.
func TestWrongVars(t *testing.T) {
	for _, c := range wrongVars {
		s, at := marked(t, c)
		for _, ahead := range []string{"func main() {", "func f(a, b) { }\nfunc main() {"} {
			refusedBody(t, ahead, s, at)
		}
	}
}

// TestWrongBodies: P4.3, so, in statements, wherever they stand.
func TestWrongBodies(t *testing.T) {
	for _, c := range wrongBodies {
		s, at := marked(t, c)
		for _, ahead := range []string{
			"func f() { var x; ", "func f(a, b) { }\nfunc main() { a = 1; ", "func f() { while (1) { a = 1; ", "func f() { a = 1; if (1) { break; } else { @9 a = 1; ",
			"func f() { if (1) { a = -1; ", "func f() { @4 while (1) { a[1] = 1; } ",
		} {
			refusedBody(t, ahead, s, at)
		}
	}
}

// refusedBody fails, if not just ErrParse is told of s behind what stands
// ahead, there; also where it is shut behind, if s does not end too early.
func refusedBody(t *testing.T, ahead, s string, at int) {
	t.Helper()
	refused(t, ahead+s, len(ahead)+at, api.ErrParse)
	if at < len(s) {
		refused(t, ahead+s+"}", len(ahead)+at, api.ErrParse)
	}
}

// TestWrongExprs: P4.3, so, in an expression alone.
func TestWrongExprs(t *testing.T) {
	for _, c := range wrongExprs {
		s, at := marked(t, c)
		refusedExpr(t, s, at, api.ErrParse)
		if n := parse.Nest(s); n != -1 {
			t.Errorf("Nest(%q) is %d", s, n)
		}
	}
	for _, s := range []string{"a", "-1", "(a)", "a + b"} {
		refused(t, s, 0, api.ErrParse)
	}
	refusedExpr(t, "func main() { }", 0, api.ErrParse)
}

// TestKeysAreNoNames: P4.1, no key stands where a name must.
func TestKeysAreNoNames(t *testing.T) {
	for _, k := range []string{"func", "var", "if", "else", "while", "break", "continue", "return", "assert", "read"} {
		refused(t, "func "+k+"() {}", 5, api.ErrParse)
		refused(t, "func f("+k+") {}", 7, api.ErrParse)
		refused(t, "func f(a, "+k+") {}", 10, api.ErrParse)
		refused(t, "func f() { var "+k+"; }", 15, api.ErrParse)
		refused(t, "func f() { a = b + "+k+"; }", 19, api.ErrParse)
		refused(t, "func f() { a = f("+k+"); }", 17, api.ErrParse)
		refusedExpr(t, k, 0, api.ErrParse)
		refusedExpr(t, "-"+k, 1, api.ErrParse)
		if k != "read" {
			refused(t, "func f() { a = "+k+"(1); }", 15, api.ErrParse)
		}
	}
}

// TestLexErrors: P4.3, the place and the error of chapter 2 come ahead of all,
// whatever stands ahead of that place.
func TestLexErrors(t *testing.T) {
	for _, c := range []string{"$#", "func main() { } $#", "$01", "a $é", "} $\x00", "func $aaaaaaaaaaaaaaaaaaaaaaaaa() {}", "; $@", "; $@01", "x $@1000001", "1 + $9223372036854775809", "1 + $18446744073709551616", "-$9223372036854775809", strings.Repeat("(", 50) + "$#"} {
		s, at := marked(t, c)
		refused(t, s, at, api.ErrLex)
		refusedExpr(t, s, at, api.ErrLex)
		if n := parse.Nest(s); n != -1 {
			t.Errorf("Nest(%q) is %d", s, n)
		}
	}
}

// TestTextLength: P4.3, a text of MaxText bytes, and one more.
func TestTextLength(t *testing.T) {
	for _, s := range []string{"func main() { }", "1 + 2", "} }", strings.Repeat("(", 41)} {
		full := s + strings.Repeat(" ", api.MaxText-len(s))
		_, at, e := parse.Parse(full)
		_, shortAt, shortE := parse.Parse(s)
		if shortAt == len(s) {
			shortAt = api.MaxText
		}
		if at != shortAt || e != shortE {
			t.Errorf("%q, full: error %d at %d", s, e, at)
		}
		refused(t, full+" ", api.MaxText, api.ErrBig)
		refusedExpr(t, full+" ", api.MaxText, api.ErrBig)
		refused(t, full+strings.Repeat("#", 3), api.MaxText, api.ErrLex)
		if n := parse.Nest(full + " "); n != -1 {
			t.Errorf("Nest is %d", n)
		}
	}
	program(t, "func main() { }"+strings.Repeat("\n", api.MaxText-15), mainOf())
	refused(t, strings.Repeat(" ", 5000000), api.MaxText, api.ErrBig)
}

// body is a program whose main has these statements.
func body(s string) string { return "func main() {" + s + "}" }

// TestStatementsAtMost: P4.3, MaxNodes statements, in one function or in more,
// and where one more must begin.
func TestStatementsAtMost(t *testing.T) {
	most := api.MaxNodes
	for _, one := range []string{"a=1;", "break;", "@9 a=1;", "if(a){}", "while(a){}", "a=f(1);", "a[0]=1;", "assert(a);"} {
		s := body(strings.Repeat(one, most))
		if p, _, e := parse.Parse(s); e != api.OK || len(p.Funcs[0].Body) != most {
			t.Errorf("of %q: error %d", one, e)
		}
		refused(t, body(strings.Repeat(one, most+1)), 13+most*len(one), api.ErrBig)
		refused(t, body(strings.Repeat(one, most)+" \n"+one+one), 13+most*len(one)+2, api.ErrBig)
	}
	many := func(n int) string { return strings.Repeat("a=1;", n) }
	for _, c := range []string{
		body(many(most-1)+"if(a){") + "}",
		body(many(most-1)+"if(a){}else{}") + "func g(){}func h(){var x;}",
		body(many(most-1) + "if(a){\n}else{\n}"),
		body("if(a){"+many(200)+"}else{"+many(most-201)+"}") + "func g(){}",
		"func f(){" + many(150) + "}func g(){" + many(150) + "}func h(){" + many(100) + "}",
		body("while(a){" + many(most-1) + "}"),
	} {
		if _, at, e := parse.Parse(c); e != api.OK || at != len(c) {
			t.Errorf("error %d at %d of %d: %.30q", e, at, len(c), c)
		}
	}
	for _, c := range []string{
		body(many(most-1) + "if(a){$a=1;}"),
		body(many(most-1) + "if(a){}else{ $@3 a=1;}"),
		body(many(most-1)+"if(a){}else{}") + "func g(){$a=1;}",
		body(many(most)) + "func g(){var x;$while(a){}}",
		"func f(){" + many(150) + "}func g(){" + many(150) + "}func h(){" + many(100) + "$a=1;}",
		body("while(a){" + many(most-1) + "}$break;"),
		body("while(a){" + many(most-1) + "$break;}"),
		body("if(a){" + many(200) + "}else{" + many(most-201) + "$a=1;}"),
		body("if(a){" + many(200) + "}else{" + many(most-201) + "}$a=1;"),
	} {
		s, at := marked(t, c)
		refused(t, s, at, api.ErrBig)
	}
}

// TestStatementsAtMostAndWrong: P4.3, where a statement must begin that is one
// too many it does not matter what stands there; what is wrong ahead of it
// does.
func TestStatementsAtMostAndWrong(t *testing.T) {
	full := strings.Repeat("a=1;", api.MaxNodes)
	for _, c := range []string{"$;", "$else{}", "$@0 a=1;", "$@1", "$)", "$1", "$var x;", "$func g(){}", "$read", "$"} {
		s, at := marked(t, "func main(){"+full+c)
		refused(t, s, at, api.ErrBig)
	}
	refused(t, "func main(){"+full[4:]+"if(a){}", 12+len(full)-4+7, api.ErrBig)
	refused(t, "func main(){"+full[4:]+"while(a){}else{}}", 12+len(full)-4+10, api.ErrBig)
	refused(t, "func main(){"+full[4:]+"if(a){}else;", 12+len(full)-4+11, api.ErrParse)
	refused(t, "func main(){"+full[4:]+"a=;a=1;a=1;", 12+len(full)-4+2, api.ErrParse)
	refused(t, "func main(){"+full[4:]+"a=1}a=1;a=1;", 12+len(full)-4+3, api.ErrParse)
	refused(t, "func main(){"+full+"}a=1;", 12+len(full)+1, api.ErrParse)
	refused(t, "func main(){"+full[4:]+"a="+strings.Repeat("(", 41)+"1;a=1;", 12+len(full)-4+2+39, api.ErrDeep)
	refused(t, "func main(){"+full+"a="+strings.Repeat("(", 41), 12+len(full), api.ErrBig)
}
