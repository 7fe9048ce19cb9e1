package parse_test

import (
	"strings"
	"testing"

	"billhook/api"
	"billhook/parse"
)

// openings are what opens one more, and how it is shut.
var openings = [][2]string{{"(", ")"}, {"a[", "]"}, {"-", ""}, {"~", ""}, {"!", ""}, {"- ", ""}, {" ( ", " ) "}}

// nested stands so deep in what opens, from any opening on, in turn.
func nested(deep, first int, inside string) string {
	s := inside
	for k := range deep {
		o := openings[(first+k)%len(openings)]
		s = o[0] + s + o[1]
	}
	return s
}

// TestNestByHand: P4.4 and P4.3, how many are open at a word at most.
func TestNestByHand(t *testing.T) {
	for s, want := range map[string]int{
		"1": 0, "a": 0, "-1": 0, "- 1": 0, "1 - 2": 0, "a - b": 0, "a + b * c": 0, "-1 - -1": 0,
		"(1)": 1, "a[1]": 1, "-a": 1, "~1": 1, "!1": 1, "--1": 1, "---1": 2, "- - a": 2, "-(1)": 2, "(-1)": 1, "(-a)": 2, "-(a)": 2, "(a) + (b)": 1, "-a + -b": 1, "-a - -b - -c": 1,
		"((1))": 2, "(1) + ((2))": 2, "a[b[c]]": 2, "a[1] + b[2]": 1, "-a[1]": 2, "-a[-b]": 3, "-a[1] + (2)": 2, "-a + (b + (c))": 2, "-a[1] - (-b)": 2, "(-a + (b))": 2, "-(a) + b[(c)]": 2,
		"-(-(-a))": 5, "~(!(1) + 1)": 4, "a[(1) + 1]": 2, "(a[1] + -b) * (-1)": 2, "!-1": 1, "a[-1]": 1, "-a * -(b + -c)": 3,
		"func main() { }": 1, "func f(a) { }": 1, "func f() { var a[3]; }": 2, "func f() { a = 1; }": 1, "func f() { a = read(); }": 2, "func f() { a = f(); }": 2, "func f() { a = f(-b); }": 3, "func f() { a = -b; }": 2, "func f() { a = -1; }": 1,
		"func f() { a[1] = 1; }": 2, "func f() { a[-a] = -a; }": 3, "func f() { if (a) { } }": 2, "func f() { if (a) { } else { if (b) { } } }": 3, "func f() { while (-a) { } }": 3, "func f() { while (a) { while (b) { } } }": 3,
		"func f() { assert(a); }": 2, "func f() { return a; }": 1, "func f() { return (a); }": 2, "func f() { if (a) { } if (b) { } }": 2, "func f() { } func g() { a = (1); } func h() { }": 2,
		"": -1, " ": -1, "(": -1, "1)": -1, "1;": -1, "func": -1, "func main() { a }": -1, "main": 0, "a = 1;": -1, "#": -1, "9223372036854775808": -1, "-9223372036854775808": 0, "read": -1, "-": -1,
	} {
		if got := parse.Nest(s); got != want {
			t.Errorf("Nest(%q) is %d, not %d", s, got, want)
		}
	}
}

// TestNestAll: P4.3 and P4.4, each depth that may be, by each kind of opening.
func TestNestAll(t *testing.T) {
	for deep := range api.MaxNest + 1 {
		for first := range openings {
			for _, inside := range []string{"a", "-1"} {
				s := nested(deep, first, inside)
				if got := parse.Nest(s); got != deep {
					t.Errorf("Nest(%q) is %d, not %d", s, got, deep)
				}
				if _, at, e := parse.Expr(s); at != len(s) || e != api.OK {
					t.Errorf("Expr(%q): error %d at %d", s, e, at)
				}
				p := "func main() { a = 1 + " + s + "; }"
				want := deep + 1
				if want > api.MaxNest {
					want = -1
				}
				if got := parse.Nest(p); got != want {
					t.Errorf("Nest(%q) is %d, not %d", p, got, want)
				}
			}
		}
	}
}

// TestDeep: P4.3, one more than may be open, of each kind, and where it is
// told: at the word that opens, whatever stands behind.
func TestDeep(t *testing.T) {
	brackets := []string{strings.Repeat("(", 40), strings.Repeat("a[", 40), "-a + " + strings.Repeat("(", 40), strings.Repeat("-(", 20), "(a[1]) - " + strings.Repeat("~a[", 20)}
	signs := []string{strings.Repeat("~", 40), strings.Repeat("-", 40), strings.Repeat("(-", 20), "1 + " + strings.Repeat("!", 40), strings.Repeat("-(a[!", 10)}
	for _, ahead := range append(signs, brackets...) {
		for _, behind := range []string{"$(", "$((1))", "$(1", "$-a", "$~1", "$!1", "$-", "$- -1", "$-(1)", "a$[", "a$[1]", "a$[)", " $- @1", " $-;"} {
			s, at := marked(t, ahead+behind)
			refusedExpr(t, s, at, api.ErrDeep)
			if n := parse.Nest(s); n != -1 {
				t.Errorf("Nest(%q) is %d", s, n)
			}
		}
	}
	for _, ahead := range brackets {
		for _, behind := range []string{"1 - $(", "-1 + a$[", "a * -2 + $~b", "1 && $-a"} {
			s, at := marked(t, ahead+behind)
			refusedExpr(t, s, at, api.ErrDeep)
		}
	}
}

// TestDeepAndWrong: P4.3, what may not stand there is not too deep, and what is
// not too deep is not refused.
func TestDeepAndWrong(t *testing.T) {
	deep := strings.Repeat("(", 40)
	for _, c := range []string{deep + "$)", deep + "$[", deep + "$", deep + "1 $(", deep + "-1 $(", deep + "1 $~a", strings.Repeat("~", 40) + "$*", strings.Repeat("(", 20) + "$)" + deep + "("} {
		s, at := marked(t, c)
		refusedExpr(t, s, at, api.ErrParse)
	}
	shut := strings.Repeat(")", 40)
	for _, s := range []string{deep + "-1" + shut, deep + "1 - 1" + shut, strings.Repeat("~", 40) + "- 1 + " + strings.Repeat("!", 40) + "a", strings.Repeat("-", 41) + "1", strings.Repeat("-", 39) + "a[1] + " + deep + "1" + shut} {
		if _, at, e := parse.Expr(s); e != api.OK || at != len(s) || parse.Nest(s) != api.MaxNest {
			t.Errorf("Expr(%q): error %d at %d", s, e, at)
		}
	}
}

// TestDeepBlocks: P4.3, blocks and brackets together.
func TestDeepBlocks(t *testing.T) {
	blocks := func(n int) (string, string) {
		return "func main() {" + strings.Repeat("while (a) {", n-1), strings.Repeat("}", n)
	}
	open, shut := blocks(40)
	for _, inside := range []string{"", "a = 1;", "a = -1;", "break;", "@1 return a - -9223372036854775808;"} {
		if _, at, e := parse.Parse(open + inside + shut); e != api.OK || at != len(open+inside+shut) {
			t.Errorf("of %q: error %d at %d", inside, e, at)
		}
	}
	for _, inside := range []string{"while $(a) {", "if $(a) {}", "a = $(1);", "a$[1] = 1;", "a = f$(", "a = f$();", "a = read$();", "assert$(a);", "return $-a;", "a = $~1;", "a = 1; a = $-", "a = 1 - 1 - $-"} {
		s, at := marked(t, open+inside)
		refused(t, s, at, api.ErrDeep)
		refused(t, s+shut, at, api.ErrDeep)
	}
	for _, inside := range []string{"while ${", "a = 1$(", "a = -1$(", "break$(", "$("} {
		s, at := marked(t, open+inside)
		refused(t, s, at, api.ErrParse)
	}
	open, shut = blocks(39)
	for _, inside := range []string{"if (a) {} else {}", "if (a) { break; } else { a = 1; }", "a = f(1, -1, a);", "a[1] = -a;", "a = -a;", "a = (1) - (2);", "a = read();"} {
		s := open + inside + shut
		if got := parse.Nest(s); got != 40 {
			t.Errorf("Nest of %q is %d", inside, got)
		}
	}
	for _, inside := range []string{"if (a) {} else { if $(", "a = f($-a);", "a[$-a] = 1;", "a[1] = -a$[1];", "if ($-a) {}", "if ($(a)) {}", "a = -$(1);", "a = - $-a;", "a = (1 + $(2));", "while (a$[1]) {}"} {
		s, at := marked(t, open+inside)
		refused(t, s, at, api.ErrDeep)
	}
}

// TestMuchTooDeep: P1, texts that open far more than may be.
func TestMuchTooDeep(t *testing.T) {
	for _, o := range []string{"(", "-", "~", "!", "a["} {
		s := strings.Repeat(o, api.MaxText/len(o))
		refusedExpr(t, s, 40*len(o)+len(o)-1, api.ErrDeep)
	}
	s := "func main(){" + strings.Repeat("if(a){", 1000)
	refused(t, s, 12+39*6+2, api.ErrDeep)
}
