package flow_test

import (
	"reflect"
	"slices"
	"strconv"
	"strings"
	"testing"

	"billhook/api"
	"billhook/flow"
	"billhook/parse"
	"billhook/tree"
)

// stmts are those of main's, which need not be checked.
func stmts(t *testing.T, body string) []tree.Stmt {
	t.Helper()
	s := "func main() { " + body + " }"
	p, at, e := parse.Parse(s)
	if e != api.OK {
		t.Fatalf("%q: error %d at %d", s, e, at)
	}
	return p.Funcs[0].Body
}

func block(l ...tree.Stmt) []tree.Stmt { return l }

func of(kind int) tree.Stmt { return tree.Stmt{Kind: kind} }

// with is a statement of any kind with a Body and an Else.
func with(kind int, body, other []tree.Stmt) tree.Stmt {
	return tree.Stmt{Kind: kind, Body: body, Else: other}
}

func list(l []int) string {
	var words []string
	for _, n := range l {
		words = append(words, strconv.Itoa(n))
	}
	return strings.Join(words, ",")
}

func lists(l [][]int) string {
	var words []string
	for _, x := range l {
		words = append(words, "["+list(x)+"]")
	}
	return strings.Join(words, " ")
}

// text writes a graph, of each node its Next, then `/` and its Other, if it is
// not -1, and `^` and its In, if it is not -1.
func text(g flow.Graph) string {
	if len(g.Other) != len(g.Next) || len(g.In) != len(g.Next) {
		return "lists of " + list([]int{len(g.Next), len(g.Other), len(g.In)})
	}
	var words []string
	for at, l := range g.Next {
		word := list(l)
		if g.Other[at] != -1 {
			word += "/" + strconv.Itoa(g.Other[at])
		}
		if g.In[at] != -1 {
			word += "^" + strconv.Itoa(g.In[at])
		}
		words = append(words, word)
	}
	return strings.Join(words, " ")
}

func holdGraph(t *testing.T, what string, l []tree.Stmt, want string) {
	t.Helper()
	// Exit has neither of what is written, and stands last.
	if got := text(flow.Of(l)); got != strings.TrimSuffix(want+" ", "Exit ") {
		t.Errorf("%s\ntells %q; asked is %q", what, got, want)
	}
}

// TestFlat: P9.1, the statements by their numbers, as they stand.
func TestFlat(t *testing.T) {
	if got := flow.Flat(nil); len(got) != 0 {
		t.Errorf("of nothing %v", got)
	}
	if got := flow.Flat([]tree.Stmt{}); len(got) != 0 {
		t.Errorf("of an empty list %v", got)
	}
	l := stmts(t, `x = 0; if (x) { x = 2; while (x) { x = 4; } x = 5; } else { x = 6; if (x) { } else { x = 8; } }
		while (x) { if (x) { break; } continue; } @3 x = f(1, x); l[1] = 2; x = read(); return x; assert(x);`)
	got := flow.Flat(l)
	want := []tree.Stmt{
		l[0], l[1], l[1].Body[0], l[1].Body[1], l[1].Body[1].Body[0], l[1].Body[2],
		l[1].Else[0], l[1].Else[1], l[1].Else[1].Else[0],
		l[2], l[2].Body[0], l[2].Body[0].Body[0], l[2].Body[1], l[3], l[4], l[5], l[6], l[7],
	}
	if !reflect.DeepEqual(got, want) {
		t.Errorf("tells\n%v; asked is\n%v", got, want)
	}
}

// tagged is a statement of any kind, known by its Tag.
func tagged(tag, kind int, body, other []tree.Stmt) tree.Stmt {
	return tree.Stmt{Kind: kind, Tag: tag, Name: "?", Func: "no name", E: []tree.Expr{{Kind: 9}}, Body: body, Else: other}
}

// TestFlatAny: P9.1, statements that are not right are numbered too, and are
// told as they stand.
func TestFlatAny(t *testing.T) {
	for kind := -1; kind < 12; kind++ {
		in := tagged(0, kind,
			block(tagged(1, kind, nil, block(tagged(2, kind, nil, nil))), tagged(3, tree.If, nil, nil)),
			block(tagged(4, kind, block(tagged(5, kind, nil, nil)), nil), tagged(-6, tree.While, nil, nil)))
		got := flow.Flat(block(in, tagged(7, kind, nil, nil)))
		want := []tree.Stmt{in, in.Body[0], in.Body[0].Else[0], in.Body[1], in.Else[0], in.Else[0].Body[0], in.Else[1], tagged(7, kind, nil, nil)}
		if !reflect.DeepEqual(got, want) {
			t.Errorf("kind %d tells\n%v; asked is\n%v", kind, got, want)
		}
	}
}

// TestOf: P9.1 and P9.2, of right statements.
func TestOf(t *testing.T) {
	for _, c := range []struct{ body, want string }{
		{"", "Exit"},
		{"x = 1;", "1 Exit"},
		{"x = 1; l[0] = 2; x = read(); x = f(); assert(x);", "1 2 3 4 5 Exit"},
		{"return 1;", "1/1 Exit"},
		{"x = 1; return x; x = 2;", "1 3/2 3 Exit"},

		{"if (x) { }", "1,1 Exit"},
		{"if (x) { } x = 1;", "1,1 2 Exit"},
		{"if (x) { x = 1; } x = 2;", "1,2 2^0 3 Exit"},
		{"if (x) { } else { x = 1; } x = 2;", "2,1 2^0 3 Exit"},
		{"if (x) { x = 1; x = 2; } else { x = 3; x = 4; } x = 5;", "1,3 2^0 5^0 4^0 5^0 6 Exit"},
		{"if (x) { x = 1; } else { x = 2; }", "1,2 3^0 3^0 Exit"},
		{"if (x) { if (x) { x = 2; } } else { if (x) { } else { x = 4; } }", "1,3 2,5^0 5^1 5,4^0 5^3 Exit"},
		{"if (x) { if (x) { if (x) { } } } x = 3;", "1,3 2,3^0 3,3^1 4 Exit"},

		{"while (x) { }", "0,1 Exit"},
		{"while (x) { } x = 1;", "0,1 2 Exit"},
		{"while (x) { x = 1; x = 2; } x = 3;", "1,3 2^0 0^0 4 Exit"},
		{"while (x) { while (x) { } }", "1,2 1,0^0 Exit"},
		{"while (x) { while (x) { x = 2; } }", "1,3 2,0^0 1^1 Exit"},
		{"while (x) { while (x) { } x = 2; }", "1,3 1,2^0 0^0 Exit"},
		{"while (x) { if (x) { } }", "1,2 0,0^0 Exit"},
		{"while (x) { if (x) { x = 2; } else { x = 3; } } x = 4;", "1,4 2,3^0 0^1 0^1 5 Exit"},
		{"if (x) { while (x) { x = 2; } } else { while (x) { x = 4; } }", "1,3 2,5^0 1^1 4,5^0 3^3 Exit"},

		{"while (x) { break; }", "1,2 2/0^0 Exit"},
		{"while (x) { continue; }", "1,2 0/0^0 Exit"},
		{"while (x) { break; x = 2; } x = 3;", "1,3 3/2^0 0^0 4 Exit"},
		{"while (x) { continue; x = 2; } x = 3;", "1,3 0/2^0 0^0 4 Exit"},
		{"while (x) { if (x) { break; } else { continue; } x = 4; } x = 5;", "1,5 2,3^0 5/4^1 0/4^1 0^0 6 Exit"},
		{"while (x) { while (x) { break; } x = 3; }", "1,4 2,3^0 3/1^1 0^0 Exit"},
		{"while (x) { while (x) { break; } }", "1,3 2,0^0 0/1^1 Exit"},
		{"while (x) { while (x) { continue; } break; } x = 4;", "1,4 2,3^0 1/1^1 4/0^0 5 Exit"},
		{"while (x) { while (x) { } break; continue; }", "1,4 1,2^0 4/3^0 0/0^0 Exit"},
		{"while (x) { if (x) { if (x) { break; } } }", "1,4 2,0^0 3,0^1 4/0^2 Exit"},
		{"while (x) { return x; } return x;", "1,2 3/0^0 3/3 Exit"},
		{"if (x) { return 1; } else { return 2; } return 3;", "1,2 4/3^0 4/3^0 4/4 Exit"},
		{"return 1; return 2;", "2/1 2/2 Exit"},
	} {
		l := stmts(t, c.body)
		holdGraph(t, c.body, l, c.want)
		if n := len(flow.Flat(l)); n+1 != len(flow.Of(l).Next) {
			t.Errorf("%s\n%d statements, and %d nodes", c.body, n, len(flow.Of(l).Next))
		}
	}
}

// TestOfAny: P9.1 and P9.2, of statements that are not right.
func TestOfAny(t *testing.T) {
	jump, again, set := of(tree.Break), of(tree.Continue), of(tree.Assign)
	for _, c := range []struct {
		l    []tree.Stmt
		want string
	}{
		// A Break, a Continue in no While.
		{block(jump), "1/1 Exit"},
		{block(again), "1/1 Exit"},
		{block(jump, again, set), "3/1 3/2 3 Exit"},
		{block(with(tree.If, block(again), block(jump)), set), "1,2 4/3^0 4/3^0 4 Exit"},
		// A jump behind a While, and of an If in none ahead of one.
		{block(with(tree.While, nil, nil), jump, again), "0,1 3/2 3/3 Exit"},
		{block(with(tree.If, block(jump), nil), with(tree.While, block(again), nil)), "1,2 4/2^0 3,4 2/2^2 Exit"},
		// A While with an Else, which follows it, and which stands in it.
		{block(with(tree.While, nil, block(set)), set), "0,2 0^0 3 Exit"},
		{block(with(tree.While, block(set), block(set, jump, again)), set), "1,5 0^0 3^0 5/4^0 0/0^0 6 Exit"},
		{block(with(tree.While, nil, block(with(tree.If, block(jump), block(again)))), set), "0,4 2,3^0 4/0^1 0/0^1 5 Exit"},
		// Statements of other kinds in which some stand.
		{block(with(tree.Assign, block(set), block(set)), set), "3 3^0 3^0 4 Exit"},
		{block(with(tree.Assign, block(set, set), block(set, set))), "5 2^0 5^0 4^0 5^0 Exit"},
		{block(with(tree.While, block(with(tree.Store, block(jump), block(again)), set), nil)), "1,5 4^0 5/4^1 0/4^1 0^0 Exit"},
		{block(with(tree.While, block(with(tree.Assert, block(jump), block(again))), nil), set), "1,4 0^0 4/0^1 0/0^1 5 Exit"},
		// Jumps in which some stand: what follows those, follows the jump.
		{block(with(tree.While, block(with(tree.Break, block(set), block(jump)), set), nil)), "1,5 5/4^0 4^1 5/4^1 0^0 Exit"},
		{block(with(tree.While, block(with(tree.Continue, block(set), block(again))), nil), set), "1,4 0/0^0 0^1 0/0^1 5 Exit"},
		{block(with(tree.Return, block(set), block(of(tree.Return))), set), "4/3 3^0 4/3^0 4 Exit"},
		{block(with(tree.Break, block(again), block(jump))), "3/3 3/3^0 3/3^0 Exit"},
		// No kind at all.
		{block(of(-1), of(10), of(99)), "1 2 3 Exit"},
		{block(with(10, block(set), nil), with(-5, nil, block(jump))), "2 2^0 4 4/4^2 Exit"},
		// A While in another's Else.
		{block(with(tree.While, nil, block(with(tree.While, block(jump), block(again)))), set), "0,4 2,0^0 0/1^1 1/1^1 5 Exit"},
	} {
		holdGraph(t, "of any", c.l, c.want)
	}
}

// TestOfHangsOnKinds: P9.2, whatever a statement has beside its kind and what
// stands in it.
func TestOfHangsOnKinds(t *testing.T) {
	for kind := -1; kind < 12; kind++ {
		a := block(with(tree.While, block(with(kind, block(of(kind)), block(of(tree.If))), of(kind)), nil))
		b := block(tagged(4, tree.While, block(tagged(-1, kind, block(tagged(0, kind, nil, nil)), block(tagged(1<<40, tree.If, nil, nil))), tagged(4, kind, nil, nil)), nil))
		if got, want := text(flow.Of(b)), text(flow.Of(a)); got != want {
			t.Errorf("kind %d tells %q, not %q", kind, got, want)
		}
	}
}

// TestEdges: P9.3, of graphs of statements.
func TestEdges(t *testing.T) {
	for _, c := range []struct{ body, want, jumps string }{
		{"", "[]", "[]"},
		{"x = 1; if (x) { } while (x) { }", "[1] [2,2] [2,3] []", "[1] [2,2] [2,3] []"},
		{"return 1;", "[1] []", "[1,1] []"},
		{"while (x) { break; continue; return x; } x = 1;", "[1,4] [4] [0] [5] [5] []", "[1,4] [4,2] [0,3] [5,0] [5] []"},
		{"while (1) { continue; }", "[1,2] [0] []", "[1,2] [0,0] []"},
	} {
		g := flow.Of(stmts(t, c.body))
		if got := lists(flow.Edges(g, false)); got != c.want {
			t.Errorf("%s\ntells %s; asked is %s", c.body, got, c.want)
		}
		if got := lists(flow.Edges(g, true)); got != c.jumps {
			t.Errorf("%s\ntells with jumps %s; asked is %s", c.body, got, c.jumps)
		}
	}
}

// TestEdgesAny: P9.3, of lists that are no graph: as many as Next is long, and
// each number as it is.
func TestEdgesAny(t *testing.T) {
	for _, c := range []struct {
		g           flow.Graph
		want, jumps string
	}{
		{flow.Graph{}, "", ""},
		{flow.Graph{Other: []int{3}, In: []int{4, 5}}, "", ""},
		{flow.Graph{Next: [][]int{nil, {}, {7}}}, "[] [] [7]", "[] [] [7]"},
		{flow.Graph{Next: [][]int{{1}, {2}, {3}}, Other: []int{0}}, "[1] [2] [3]", "[1,0] [2] [3]"},
		{flow.Graph{Next: [][]int{{1}, nil}, Other: []int{-1, 2, 3, 4}}, "[1] []", "[1] [2]"},
		{flow.Graph{Next: [][]int{{9, -4, 9}, {0, 0}, {}, nil}, Other: []int{-9, 99, -1, -1 << 63}}, "[9,-4,9] [0,0] [] []", "[9,-4,9] [0,0,99] [] []"},
		{flow.Graph{Next: [][]int{{1<<63 - 1}}, Other: []int{1<<63 - 1}, In: []int{-7}}, "[9223372036854775807]", "[9223372036854775807,9223372036854775807]"},
		{flow.Graph{Next: [][]int{{1}, {0}}, Other: []int{1, 0}}, "[1] [0]", "[1,1] [0,0]"},
	} {
		if got := lists(flow.Edges(c.g, false)); got != c.want {
			t.Errorf("%v\ntells %s; asked is %s", c.g, got, c.want)
		}
		if got := lists(flow.Edges(c.g, true)); got != c.jumps {
			t.Errorf("%v\ntells with jumps %s; asked is %s", c.g, got, c.jumps)
		}
	}
}

// TestBack: P9.3, rising, each once, and what is no node is nothing.
func TestBack(t *testing.T) {
	for _, c := range []struct {
		next [][]int
		want string
	}{
		{nil, ""},
		{[][]int{}, ""},
		{[][]int{nil}, "[]"},
		{[][]int{{0}}, "[0]"},
		{[][]int{{1}, {2}, {}}, "[] [0] [1]"},
		{[][]int{{2}, {2}, {2, 2, 0}}, "[2] [] [0,1,2]"},
		{[][]int{{1, 1}, {0, 1, 0}}, "[1] [0,1]"},
		{[][]int{{1, 0, 1, 0, 1}, nil}, "[0] [0]"},
		{[][]int{{2, 1, 0}, {0, 2, 1}, {1, 0, 2}}, "[0,1,2] [0,1,2] [0,1,2]"},
		{[][]int{{-1, 2, 3}, {1 << 62, -1 << 63, 0}}, "[1] []"},
		{[][]int{{1<<63 - 1, 1}, {1 << 32, 1<<32 + 1}}, "[] [0]"},
		{[][]int{{1, 2, 1}, {3}, {1, 3}, nil}, "[] [0,2] [0] [1,2]"},
	} {
		if got := lists(flow.Back(c.next)); got != c.want {
			t.Errorf("%v\ntells %s; asked is %s", c.next, got, c.want)
		}
	}
	g := flow.Of(stmts(t, "while (x) { if (x) { break; } continue; } return x;"))
	if got := lists(flow.Back(flow.Edges(g, true))); got != "[3] [0] [1] [1,2] [0,2] [4]" {
		t.Errorf("with jumps %s", got)
	}
	if got := lists(flow.Back(g.Next)); got != "[3] [0] [1] [1] [0,2] [4]" {
		t.Errorf("without %s", got)
	}
}

// TestBackOfMany: P9.3, of many nodes that all have one, many times.
func TestBackOfMany(t *testing.T) {
	const many = 1000
	next := make([][]int, many)
	for i := range next {
		next[i] = slices.Repeat([]int{many - 1, 3, many}, many)
	}
	got := flow.Back(next)
	for i, l := range got {
		want := 0
		if i == 3 || i == many-1 {
			want = many
		}
		if len(l) != want || !slices.IsSorted(l) || len(slices.Compact(slices.Clone(l))) != want {
			t.Errorf("of %d: %v", i, l)
		}
	}
}
