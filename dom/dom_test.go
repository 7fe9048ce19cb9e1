package dom_test

import (
	"slices"
	"strconv"
	"strings"
	"testing"

	"billhook/dom"
	"billhook/flow"
	"billhook/parse"
)

const (
	lowest  = -1 << 63
	highest = 1<<63 - 1
)

func list(l []int) string {
	var words []string
	for _, n := range l {
		words = append(words, strconv.Itoa(n))
	}
	return strings.Join(words, ",")
}

func lists(l [][]int) string {
	var words []string
	for _, x := range l {
		words = append(words, "["+list(x)+"]")
	}
	return strings.Join(words, " ")
}

// which tells the numbers of which it holds.
func which(l []bool) []int {
	told := []int{}
	for n, holds := range l {
		if holds {
			told = append(told, n)
		}
	}
	return told
}

func rows(l [][]bool) string {
	var told [][]int
	for _, x := range l {
		told = append(told, which(x))
	}
	return lists(told)
}

// TestReach: P10.1, by no edge or more, from any numbers.
func TestReach(t *testing.T) {
	chain := [][]int{{1}, {2}, {3}, nil}
	for _, c := range []struct {
		next [][]int
		from []int
		want string
	}{
		{nil, nil, ""},
		{nil, []int{0, 1, -1}, ""},
		{[][]int{}, []int{0}, ""},
		{[][]int{nil}, nil, ""},
		{[][]int{nil}, []int{0}, "0"},
		{[][]int{nil}, []int{1, -1, lowest, highest}, ""},
		{[][]int{{0}}, []int{0}, "0"},
		{chain, nil, ""},
		{chain, []int{}, ""},
		{chain, []int{0}, "0,1,2,3"},
		{chain, []int{2}, "2,3"},
		{chain, []int{3}, "3"},
		{chain, []int{4}, ""},
		{chain, []int{-1}, ""},
		{chain, []int{3, 1}, "1,2,3"},
		{chain, []int{2, 2, 2}, "2,3"},
		{chain, []int{lowest, -1, 2, 4, highest}, "2,3"},
		{chain, []int{1 << 32, 1<<32 + 2}, ""},
		// Exit is gone on from too.
		{[][]int{nil, {0}, {1}}, []int{2}, "0,1,2"},
		{[][]int{nil, {0}, {1}}, []int{1}, "0,1"},
		// Loops, and many edges to one.
		{[][]int{{0}, {1}, {2}}, []int{1}, "1"},
		{[][]int{{1}, {0}, {0}}, []int{1}, "0,1"},
		{[][]int{{1, 1, 2, 1}, {0, 0}, {2, 2}, {0}}, []int{0}, "0,1,2"},
		{[][]int{{2}, {3}, {0}, {1}, nil}, []int{0}, "0,2"},
		{[][]int{{2}, {3}, {0}, {1}, nil}, []int{0, 1}, "0,1,2,3"},
		// What is no node is nothing.
		{[][]int{{-1, 3, lowest, highest, 2}, {1}, {-2, 4}}, []int{0}, "0,2"},
	} {
		got := dom.Reach(c.next, c.from...)
		if len(got) != len(c.next) || list(which(got)) != c.want {
			t.Errorf("of %v from %v tells %v; asked is %s", c.next, c.from, got, c.want)
		}
	}
	if got := dom.Reach(chain, 1); list(which(got)) != "1,2,3" {
		t.Errorf("from a node tells %v", got)
	}
	if got := dom.Reach(chain); len(got) != 4 || len(which(got)) != 0 {
		t.Errorf("from none tells %v", got)
	}
}

// known are graphs, and what Post, Least and Control tell of them.
var known = []struct {
	what                 string
	next                 [][]int
	post, least, control string
}{
	{"nil", nil, "", "", ""},
	{"nothing", [][]int{}, "", "", ""},
	{"Exit alone", [][]int{nil}, "[0]", "-1", "[]"},
	{"Exit, to itself", [][]int{{0}}, "[0]", "-1", "[0]"},
	{"Exit, to no node", [][]int{{1, -1}}, "[0]", "-1", "[]"},
	{"a chain", [][]int{{1}, {2}, {}}, "[0,1,2] [1,2] [2]", "1,2,-1", "[] [] []"},
	{"a chain that falls", [][]int{{3}, {0}, {1}, {}}, "[0,3] [0,1,3] [0,1,2,3] [3]", "3,0,1,-1", "[] [] [] []"},
	{"edges twice", [][]int{{1, 1}, {2, 2, 2}, nil}, "[0,1,2] [1,2] [2]", "1,2,-1", "[] [] []"},
	{"an edge to Exit, and past the end", [][]int{{1}, {3, 2, -1}, {}}, "[0,1,2] [1,2] [2]", "1,2,-1", "[] [] []"},

	{"an If with both", [][]int{{1, 2}, {3}, {3}, nil}, "[0,3] [1,3] [2,3] [3]", "3,3,3,-1", "[] [0] [0] []"},
	{"an If with one", [][]int{{1, 2}, {2}, {3}, nil}, "[0,2,3] [1,2,3] [2,3] [3]", "2,2,3,-1", "[] [0] [] []"},
	{"an If with none", [][]int{{1, 1}, {2}, nil}, "[0,1,2] [1,2] [2]", "1,2,-1", "[] [] []"},
	{"an If in an If", [][]int{{1, 4}, {2, 3}, {3}, {4}, nil}, "[0,4] [1,3,4] [2,3,4] [3,4] [4]", "4,3,3,4,-1", "[] [0] [1] [0] []"},
	{"a choice of three", [][]int{{1, 2, 3}, {3}, {3}, nil}, "[0,3] [1,3] [2,3] [3]", "3,3,3,-1", "[] [0] [0] []"},
	{"a step from choice to choice", [][]int{{1, 2}, {2, 3}, {3}, nil}, "[0,3] [1,3] [2,3] [3]", "3,3,3,-1", "[] [0] [0,1] []"},

	{"a loop, ahead of Exit", [][]int{{0, 1}, nil}, "[0,1] [1]", "1,-1", "[0] []"},
	{"a loop of one", [][]int{{1, 2}, {0}, nil}, "[0,2] [0,1,2] [2]", "2,0,-1", "[0] [0] []"},
	{"a loop in a loop", [][]int{{1, 3}, {2, 0}, {1}, nil}, "[0,3] [0,1,3] [0,1,2,3] [3]", "3,0,1,-1", "[0] [0,1] [1] []"},
	{"a loop left in the midst", [][]int{{1, 4}, {2, 3}, {4}, {0}, nil}, "[0,4] [1,4] [2,4] [0,3,4] [4]", "4,4,4,0,-1", "[1] [0] [1] [1] []"},
	{"a loop that is begun in two places", [][]int{{1, 2}, {2}, {1, 3}, nil}, "[0,2,3] [1,2,3] [2,3] [3]", "2,2,3,-1", "[] [0,2] [2] []"},

	{"no way", [][]int{nil, nil}, "[0,1] [1]", "-1,-1", "[] []"},
	{"no way, for ever", [][]int{{0}, nil}, "[0,1] [1]", "-1,-1", "[0] []"},
	{"no way, round", [][]int{{1}, {0, 1}, nil}, "[0,1,2] [0,1,2] [2]", "-1,-1,-1", "[0] [1] []"},
	{"no way, but past the end", [][]int{{2, -1}, nil}, "[0,1] [1]", "-1,-1", "[] []"},
	{"a choice of no way", [][]int{{1, 2}, {}, nil}, "[0,2] [0,1,2] [2]", "2,-1,-1", "[0] [0] []"},
	{"a choice of a loop", [][]int{{1, 2}, {1}, nil}, "[0,2] [0,1,2] [2]", "2,-1,-1", "[0] [0,1] []"},
	{"a choice of a long loop", [][]int{{1, 3}, {2}, {1}, nil}, "[0,3] [0,1,2,3] [0,1,2,3] [3]", "3,-1,-1,-1", "[0] [0,1] [0,2] []"},
	{"no way from a loop", [][]int{{1, 2}, {0, 3}, {-1}, nil}, "[0,1,3] [1,3] [0,1,2,3] [3]", "1,3,-1,-1", "[0,1] [1] [0] []"},
	{"no way from a choice ahead of one", [][]int{{1, 2}, {3}, {2}, nil}, "[0,1,3] [1,3] [0,1,2,3] [3]", "1,3,-1,-1", "[0] [] [0,2] []"},
	{"no way from both", [][]int{{1, 2}, {3, 2}, {2}, nil}, "[0,1,3] [1,3] [0,1,2,3] [3]", "1,3,-1,-1", "[0,1] [1] [0,1,2] []"},

	{"Exit goes on", [][]int{{1}, {2}, {0}}, "[0,1,2] [1,2] [2]", "1,2,-1", "[2] [2] [2]"},
	{"Exit goes on, to no way", [][]int{{0}, {1}, {2, 0}}, "[0,1,2] [0,1,2] [2]", "-1,-1,-1", "[0,2] [1,2] [2]"},
	{"Exit goes on, to both", [][]int{{1, 2}, {4, 2}, {3}, {2}, {0, 2}}, "[0,1,4] [1,4] [0,1,2,3,4] [0,1,2,3,4] [4]", "1,4,-1,-1,-1", "[0,1,4] [1,4] [0,1,2,4] [0,1,3,4] [4]"},

	{"far numbers", [][]int{{lowest, 1, highest}, {1 << 32, -2}, {-1, 3}}, "[0,1,2] [0,1,2] [2]", "-1,-1,-1", "[0] [] []"},
	{"far numbers beside a way", [][]int{{lowest, 1, highest}, {1 << 32, -2, 2, 2}, {-1, 3}}, "[0,1,2] [1,2] [2]", "1,2,-1", "[] [] []"},
}

// TestPost: P10.1.
func TestPost(t *testing.T) {
	for _, c := range known {
		if got := dom.Post(c.next); len(got) != len(c.next) || rows(got) != c.post {
			t.Errorf("%s: tells %s; asked is %s", c.what, rows(got), c.post)
		}
		for _, row := range dom.Post(c.next) {
			if len(row) != len(c.next) {
				t.Errorf("%s: a row of %d", c.what, len(row))
			}
		}
	}
}

// TestLeast: P10.2.
func TestLeast(t *testing.T) {
	for _, c := range known {
		if got := list(dom.Least(c.next)); got != c.least {
			t.Errorf("%s: tells %s; asked is %s", c.what, got, c.least)
		}
	}
}

// TestControl: P10.3.
func TestControl(t *testing.T) {
	for _, c := range known {
		if got := dom.Control(c.next); len(got) != len(c.next) || lists(got) != c.control {
			t.Errorf("%s: tells %s; asked is %s", c.what, lists(got), c.control)
		}
	}
}

// edges are those of main's graph.
func edges(t *testing.T, body string, jumps bool) [][]int {
	t.Helper()
	s := "func main() { " + body + " }"
	p, at, e := parse.Parse(s)
	if e != 0 {
		t.Fatalf("%q: error %d at %d", s, e, at)
	}
	return flow.Edges(flow.Of(p.Funcs[0].Body), jumps)
}

// TestPrograms: P10.2 and P10.3, of graphs of statements (chapter 9), with no
// jumps, and with.
func TestPrograms(t *testing.T) {
	for _, c := range []struct {
		body           string
		least, control string
		jumpsLeast     string
		jumpsControl   string
	}{
		{"", "-1", "[]", "-1", "[]"},
		{"x = 1; x = 2;", "1,2,-1", "[] [] []", "1,2,-1", "[] [] []"},
		{"if (x) { x = 1; } else { x = 2; } x = 3;", "3,3,3,4,-1", "[] [0] [0] [] []", "3,3,3,4,-1", "[] [0] [0] [] []"},
		{"while (x) { x = 1; } x = 2;", "2,0,3,-1", "[0] [0] [] []", "2,0,3,-1", "[0] [0] [] []"},
		{"while (1) { }", "1,-1", "[0] []", "1,-1", "[0] []"},
		// What stands behind a jump hangs on it, but only with jumps.
		{"return 1; x = 1;", "2,2,-1", "[] [] []", "2,2,-1", "[] [0] []"},
		{"if (x) { return 1; } x = 2;", "3,3,3,-1", "[] [0] [0] []", "3,3,3,-1", "[] [0] [0,1] []"},
		{"while (x) { if (y) { break; } x = 3; } x = 4;", "4,4,4,0,5,-1", "[1] [0] [1] [1] [] []", "4,4,4,0,5,-1", "[1,2] [0] [1] [1,2] [] []"},
		{"while (x) { if (y) { continue; } x = 3; }", "4,0,0,0,-1", "[0] [0] [1] [1] []", "4,0,0,0,-1", "[0] [0] [1] [1,2] []"},
	} {
		next, jumps := edges(t, c.body, false), edges(t, c.body, true)
		got := []string{list(dom.Least(next)), lists(dom.Control(next)), list(dom.Least(jumps)), lists(dom.Control(jumps))}
		want := []string{c.least, c.control, c.jumpsLeast, c.jumpsControl}
		if !slices.Equal(got, want) {
			t.Errorf("%s\ntells %q; asked is %q", c.body, got, want)
		}
	}
}
