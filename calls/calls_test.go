package calls_test

import (
	"math"
	"slices"
	"strings"
	"testing"

	"billhook/api"
	"billhook/calls"
	"billhook/check"
	"billhook/parse"
	"billhook/tree"
)

const (
	low  = math.MinInt64
	high = math.MaxInt64
)

// sample has a loop of two Funcs, one that reads below others, one that calls
// itself, and one with a While that does not.
const sample = `func a(n) { var x; if (n) { x = b(n); } else { while (n) { x = c(); } } x = b(x); return x; }
func b(n) { var x; x = a(n); return x; }
func c() { var x; x = d(); x = d(); return x; }
func d() { var x; x = read(); return x; }
func e(n) { return n; }
func f(n) { var x; x = f(n); x = e(x); }
func g() { var x; while (x) { if (x) { } else { x = e(x); } } }
func main() { var x; x = g(); while (x) { x = c(); } }`

func parsed(t *testing.T, s string) tree.Prog {
	t.Helper()
	p, at, e := parse.Parse(s)
	if e != api.OK {
		t.Fatalf("%q: error %d at %d", s, e, at)
	}
	if e, where := check.Check(p); e != api.OK {
		t.Fatalf("%q: error %d of %d", s, e, where)
	}
	return p
}

func call(name string) tree.Stmt { return tree.Stmt{Kind: tree.Call, Name: "x", Func: name} }

func block(l ...tree.Stmt) []tree.Stmt { return l }

func within(kind int, body, other []tree.Stmt) tree.Stmt {
	return tree.Stmt{Kind: kind, Body: body, Else: other}
}

// linked are the Funcs a, b, .., each of which calls those that its text
// names.
func linked(texts ...string) (p tree.Prog) {
	for i, s := range texts {
		f := tree.Func{Name: string(rune('a' + i))}
		for _, name := range strings.Fields(s) {
			f.Body = append(f.Body, call(name))
		}
		p.Funcs = append(p.Funcs, f)
	}
	return p
}

// marks has a true where s has x.
func marks(s string) []bool {
	l := []bool{}
	for _, b := range []byte(s) {
		l = append(l, b == 'x')
	}
	return l
}

func sameLists(a, b [][]int) bool { return slices.EqualFunc(a, b, slices.Equal[[]int]) }

func holdMarks(t *testing.T, what string, got []bool, want string) {
	t.Helper()
	if !slices.Equal(got, marks(want)) {
		t.Errorf("%s: %v, not %s", what, got, want)
	}
}

func holdLists(t *testing.T, what string, got, want [][]int) {
	t.Helper()
	if !sameLists(got, want) {
		t.Errorf("%s: %v, not %v", what, got, want)
	}
}

// TestCalled: P6.1, the names of all Calls, wherever they stand.
func TestCalled(t *testing.T) {
	deep := block(
		call("m"), within(tree.If, block(call("z"), within(tree.While, block(call("b")), nil)), block(call("a"), call("m"))),
		tree.Stmt{Kind: tree.Read, Name: "r"}, within(tree.While, block(call("a"), within(tree.If, nil, block(call("q")))), nil), call("m"),
	)
	for _, c := range []struct {
		l    []tree.Stmt
		want string
	}{
		{nil, ""}, {block(), ""}, {block(call("f")), "f"}, {block(call("f"), call("f")), "f"}, {block(call("g"), call("f")), "f g"}, {deep, "a b m q z"},
		{block(call("a10"), call("a9"), call("a"), call("B"), call("_"), call("ab"), call("aB"), call("a_"), call("Z"), call("a1")), "B Z _ a a1 a10 a9 aB a_ ab"},
	} {
		if got := calls.Called(c.l); !slices.Equal(got, strings.Fields(c.want)) {
			t.Errorf("Called tells %q, not %q", got, c.want)
		}
	}
	for i, want := range []string{"b c", "a", "d", "", "", "e f", "e", "c g"} {
		if got := calls.Called(parsed(t, sample).Funcs[i].Body); !slices.Equal(got, strings.Fields(want)) {
			t.Errorf("Called of %d tells %q, not %q", i, got, want)
		}
	}
}

// TestCalledWrong: P6.1, statements that are not right: Calls alone count, and
// what stands below any statement.
func TestCalledWrong(t *testing.T) {
	for kind := -2; kind < 13; kind++ {
		s := tree.Stmt{Kind: kind, Func: "own", Body: block(call("y")), Else: block(within(kind, nil, block(call("\xff"), call("")))), E: []tree.Expr{{Kind: tree.Call, Name: "none"}}}
		want := []string{"", "y", "\xff"}
		if kind == tree.Call {
			want = []string{"", "own", "y", "\xff"}
		}
		got := calls.Called(block(s))
		if !slices.Equal(got, want) {
			t.Errorf("Called tells %q, not %q, of kind %d", got, want, kind)
		}
	}
}

// TestGraph: P6.1, which one calls which.
func TestGraph(t *testing.T) {
	for _, c := range []struct {
		p    tree.Prog
		want [][]int
	}{
		{tree.Prog{}, nil}, {linked(""), [][]int{{}}}, {linked("a"), [][]int{{0}}}, {linked("a a"), [][]int{{0}}},
		{linked("c b c a b", "", "b"), [][]int{{0, 1, 2}, {}, {1}}},
		{linked("none", "A", "aa b nil"), [][]int{{}, {}, {1}}},
		{parsed(t, sample), [][]int{{1, 2}, {0}, {3}, {}, {}, {4, 5}, {4}, {2, 6}}},
		{parsed(t, "func z() { var x; x = m(); x = a(); } func m() { } func a() { } func main() { }"), [][]int{{1, 2}, {}, {}, {}}},
	} {
		holdLists(t, "Graph", calls.Graph(c.p), c.want)
	}
}

// TestGraphNames: P6.1, of two Funcs of one name Find tells the first, be it
// no name at all; and main may be called where nothing was checked.
func TestGraphNames(t *testing.T) {
	p := linked("b c", "", "b", "a b d", "d")
	p.Funcs[3].Name = "b"
	holdLists(t, "Graph", calls.Graph(p), [][]int{{1, 2}, {}, {1}, {0, 1}, {}})
	holdMarks(t, "From", calls.From(p, 3), "xxxx.")
	holdMarks(t, "From", calls.From(p, 0), "xxx..")
	p = tree.Prog{Funcs: []tree.Func{{Name: "f", Body: block(call(""), call("main"))}, {}, {}, {Name: "main", Body: block(call("f"))}}}
	holdLists(t, "Graph", calls.Graph(p), [][]int{{1, 3}, {}, {}, {0}})
	holdMarks(t, "Recurs", calls.Recurs(p), "x..x")
}

// TestFrom: P6.2, those that are asked for, and all that they come to.
func TestFrom(t *testing.T) {
	p := parsed(t, sample)
	for _, c := range []struct {
		at   []int
		want string
	}{
		{nil, "........"}, {[]int{0}, "xxxx...."}, {[]int{1}, "xxxx...."}, {[]int{2}, "..xx...."}, {[]int{3}, "...x...."}, {[]int{4}, "....x..."}, {[]int{5}, "....xx.."}, {[]int{7}, "..xxx.xx"},
		{[]int{5, 2}, "..xxxx.."}, {[]int{4, 5, 4}, "....xx.."}, {[]int{6, 6}, "....x.x."}, {[]int{7, 0, 5}, "xxxxxxxx"},
		{[]int{-1}, "........"}, {[]int{8}, "........"}, {[]int{low, -1, 8, high, 3}, "...x...."}, {[]int{3, 8, -8, 4, 1 << 32}, "...xx..."},
	} {
		holdMarks(t, "From", calls.From(p, c.at...), c.want)
	}
	holdMarks(t, "From nothing", calls.From(tree.Prog{}, 0, -1, 1), "")
}

// TestReads: P6.2, a Read of its own, or of what it comes to, wherever it
// stands.
func TestReads(t *testing.T) {
	holdMarks(t, "Reads", calls.Reads(parsed(t, sample)), "xxxx...x")
	holdMarks(t, "Reads", calls.Reads(tree.Prog{}), "")
	holdMarks(t, "Reads", calls.Reads(parsed(t, "func a() { var x; x = b(); } func b() { var x; while (x) { if (1) { } else { if (1) { x = read(); } } } } func c() { var x; x = d(); } func d() { var x; x = c(); } func main() { var x; x = c(); }")), "xx...")
	holdMarks(t, "Reads", calls.Reads(parsed(t, "func a() { var x; x = b(); } func b() { var x; x = c(); } func c() { var x; x = a(); x = read(); } func d() { } func main() { var x; x = read(); x = d(); }")), "xxx.x")
}

// TestRecurs: P6.2, by one call or more; what only comes to such a one does
// not.
func TestRecurs(t *testing.T) {
	holdMarks(t, "Recurs", calls.Recurs(parsed(t, sample)), "xx...x..")
	holdMarks(t, "Recurs", calls.Recurs(tree.Prog{}), "")
	holdMarks(t, "Recurs", calls.Recurs(linked("")), ".")
	holdMarks(t, "Recurs", calls.Recurs(linked("a")), "x")
	holdMarks(t, "Recurs", calls.Recurs(linked("b", "c", "d", "b", "a")), ".xxx.")
	holdMarks(t, "Recurs", calls.Recurs(linked("b c", "d", "d", "")), "....")
	holdMarks(t, "Recurs", calls.Recurs(linked("b", "c f", "a", "e", "e", "")), "xxx.x.")
}

// TestEnds: P6.2, no While and none that Recurs, of its own or of what it
// comes to.
func TestEnds(t *testing.T) {
	holdMarks(t, "Ends", calls.Ends(parsed(t, sample)), "..xxx...")
	holdMarks(t, "Ends", calls.Ends(tree.Prog{}), "")
	holdMarks(t, "Ends", calls.Ends(linked("b c", "d", "d", "")), "xxxx")
	holdMarks(t, "Ends", calls.Ends(linked("b", "c", "c", "", "d")), "...xx")
	holdMarks(t, "Ends", calls.Ends(linked("b", "a", "d", "")), "..xx")
	holdMarks(t, "Ends", calls.Ends(parsed(t, "func a() { if (1) { if (1) { } else { while (0) { } } } } func b() { var x; x = a(); } func c() { var x; x = read(); if (x) { return 1; } else { assert(x); } } func main() { var x; x = c(); }")), "..xx")
}

// TestWrongBodies: P6.2, a Read and a While count below any statement, and
// nothing else does.
func TestWrongBodies(t *testing.T) {
	for kind := -2; kind < 13; kind++ {
		for _, inner := range []int{tree.Read, tree.While, tree.Assign, 11} {
			body := block(within(kind, nil, block(within(kind, block(tree.Stmt{Kind: inner}), nil))))
			p := tree.Prog{Funcs: []tree.Func{{Name: "f", Body: body}, {Name: "main", Body: block(call("f"))}}}
			for i := range 2 {
				if got := calls.Reads(p)[i]; got != (kind == tree.Read || inner == tree.Read) {
					t.Errorf("Reads of %d tells %t of kinds %d, %d", i, got, kind, inner)
				}
				if got := calls.Ends(p)[i]; got != (kind != tree.While && inner != tree.While) {
					t.Errorf("Ends of %d tells %t of kinds %d, %d", i, got, kind, inner)
				}
			}
		}
	}
}

// TestComponents: P6.2, those that come to each other, by their order.
func TestComponents(t *testing.T) {
	for _, c := range []struct {
		p    tree.Prog
		want [][]int
	}{
		{tree.Prog{}, nil}, {linked(""), [][]int{{0}}}, {linked("a"), [][]int{{0}}}, {linked("b", ""), [][]int{{0}, {1}}}, {linked("", "a"), [][]int{{0}, {1}}},
		{linked("b", "a"), [][]int{{0, 1}}}, {linked("c", "d", "a", "b"), [][]int{{0, 2}, {1, 3}}}, {linked("d", "c", "b d", "a"), [][]int{{0, 3}, {1, 2}}},
		{linked("e", "a", "", "b c", "d"), [][]int{{0, 1, 3, 4}, {2}}}, {linked("b", "c", "d", "b", "a"), [][]int{{0}, {1, 2, 3}, {4}}},
		{linked("b", "a c", "b d", "c"), [][]int{{0, 1, 2, 3}}}, {linked("c", "c", "d e", "a", "b"), [][]int{{0, 1, 2, 3, 4}}}, {linked("b c d", "c d", "d", ""), [][]int{{0}, {1}, {2}, {3}}},
		{parsed(t, sample), [][]int{{0, 1}, {2}, {3}, {4}, {5}, {6}, {7}}},
	} {
		holdLists(t, "Components", calls.Components(c.p), c.want)
	}
}
