package calls_test

import (
	"reflect"
	"slices"
	"strconv"
	"strings"
	"sync"
	"testing"

	"billhook/calls"
	"billhook/tree"
)

// TestArgumentsStay: P3, nothing that is handed in is written into, nor what
// stands behind it in its array.
func TestArgumentsStay(t *testing.T) {
	p := parsed(t, sample)
	funcs := append(make([]tree.Func, 0, 20), p.Funcs...)
	body := append(make([]tree.Stmt, 0, 20), funcs[0].Body...)
	many := len(body)
	p.Funcs, funcs[0].Body = funcs, body
	at := append(make([]int, 0, 9), 7, -3, 0, 99)
	for range 2 {
		calls.Graph(p)
		calls.From(p, at...)
		calls.Reads(p)
		calls.Recurs(p)
		calls.Ends(p)
		calls.Components(p)
		calls.Called(body)
	}
	if !reflect.DeepEqual(p, parsed(t, sample)) || !slices.Equal(at[:9], []int{7, -3, 0, 99, 0, 0, 0, 0, 0}) {
		t.Error("written into")
	}
	if !reflect.DeepEqual(body[many:cap(body)], make([]tree.Stmt, cap(body)-many)) || !reflect.DeepEqual(funcs[len(funcs):cap(funcs)], make([]tree.Func, cap(funcs)-len(funcs))) {
		t.Error("written behind lists")
	}
}

// spoil writes into a list, and into its spare room.
func spoil[T any](l []T, x T) {
	l = l[:cap(l)]
	for i := range l {
		l[i] = x
	}
}

// TestAnswersApart: P3, an answer is new memory: no two lists share any, and
// none is kept.
func TestAnswersApart(t *testing.T) {
	p := parsed(t, sample)
	ring := linked("b c d", "c a", "d e a", "a", "f", "g", "e")
	for _, p := range []tree.Prog{p, ring} {
		for _, ask := range []func(p tree.Prog) [][]int{calls.Graph, calls.Components} {
			first, second := ask(p), ask(p)
			for i := range first {
				spoil(first[i], -7)
				if !sameLists(first[i+1:], second[i+1:]) {
					t.Errorf("list %d shares memory with one behind it", i)
				}
			}
			for i := range slices.Backward(second) {
				spoil(second[i], -7)
				if again := ask(p); !sameLists(second[:i], again[:i]) {
					t.Errorf("list %d shares memory with one ahead of it", i)
				}
			}
		}
		for _, ask := range []func(p tree.Prog) []bool{calls.Reads, calls.Recurs, calls.Ends, func(p tree.Prog) []bool { return calls.From(p, 2) }} {
			first := ask(p)
			kept := slices.Clone(first)
			spoil(first, true)
			if !slices.Equal(ask(p), kept) {
				t.Error("an answer was kept")
			}
		}
	}
	first := calls.Called(p.Funcs[0].Body)
	spoil(first, "?")
	if got := calls.Called(p.Funcs[0].Body); !slices.Equal(got, []string{"b", "c"}) {
		t.Errorf("Called tells %q", got)
	}
}

// answers are those of all calls.
type answers struct {
	graph, lists              [][]int
	from, reads, recurs, ends []bool
	called                    []string
}

func all(p tree.Prog) (a answers) {
	a.graph, a.lists = calls.Graph(p), calls.Components(p)
	a.from, a.reads, a.recurs, a.ends = calls.From(p, 7, 1), calls.Reads(p), calls.Recurs(p), calls.Ends(p)
	for _, f := range p.Funcs {
		a.called = append(a.called, calls.Called(f.Body)...)
	}
	return a
}

// TestSameAnswers: P4, answers hang on arguments alone, whoever else calls.
func TestSameAnswers(t *testing.T) {
	l := []tree.Prog{parsed(t, sample), linked("b c", "c a", "d", "a e", "f", "e"), {}, linked("a", "a", "b")}
	want := []answers{}
	for _, p := range l {
		want = append(want, all(p))
	}
	var done sync.WaitGroup
	for range 8 {
		done.Go(func() {
			for range 50 {
				for i, p := range l {
					if !reflect.DeepEqual(all(p), want[i]) {
						t.Errorf("another answer of %d", i)
					}
				}
			}
		})
	}
	done.Wait()
}

// TestDeep: P1, trees as deep as the limits allow.
func TestDeep(t *testing.T) {
	l := block(call("f"), tree.Stmt{Kind: tree.Read}, call("main"))
	for k := range 99990 {
		if k%2 == 0 {
			l = block(within(tree.If, l, nil))
		} else {
			l = block(within(tree.If, nil, l))
		}
	}
	p := tree.Prog{Funcs: []tree.Func{{Name: "f", Body: l}, {Name: "g"}, {Name: "main", Body: block(call("f"))}}}
	if got := calls.Called(l); !slices.Equal(got, []string{"f", "main"}) {
		t.Errorf("Called tells %q", got)
	}
	holdLists(t, "Graph", calls.Graph(p), [][]int{{0, 2}, {}, {0}})
	holdMarks(t, "From", calls.From(p, 2), "x.x")
	holdMarks(t, "Reads", calls.Reads(p), "x.x")
	holdMarks(t, "Recurs", calls.Recurs(p), "x.x")
	holdMarks(t, "Ends", calls.Ends(p), ".x.")
	holdLists(t, "Components", calls.Components(p), [][]int{{0, 2}, {1}})
}

// chain are so many Funcs, each of which calls the one behind it.
func chain(n int) (p tree.Prog) {
	for i := range n {
		p.Funcs = append(p.Funcs, tree.Func{Name: "f" + strconv.Itoa(i), Body: block(call("f" + strconv.Itoa(i+1)))})
	}
	return p
}

// TestMany: P1, programs that were not checked may have any number of Funcs.
func TestMany(t *testing.T) {
	const n = 200000
	p := chain(n)
	all, none := strings.Repeat("x", n), strings.Repeat(".", n)
	last := &p.Funcs[n-1]
	if slices.Contains(calls.From(p, 0), false) || len(calls.Components(p)) != n {
		t.Error("a chain that does not come to its end")
	}
	if !slices.Equal(calls.Ends(p), marks(all)) || !slices.Equal(calls.Recurs(p), marks(none)) {
		t.Error("a chain that does not end")
	}
	last.Body = block(tree.Stmt{Kind: tree.Read}, call("f0"))
	if !slices.Equal(calls.Reads(p), marks(all)) || !slices.Equal(calls.Recurs(p), marks(all)) || !slices.Equal(calls.Ends(p), marks(none)) {
		t.Error("a ring that does not come round")
	}
	if l := calls.Components(p); len(l) != 1 || len(l[0]) != n || !slices.IsSorted(l[0]) {
		t.Errorf("%d components", len(l))
	}
}
