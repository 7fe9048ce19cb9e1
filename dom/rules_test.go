package dom_test

import (
	"math/rand"
	"slices"
	"sync"
	"testing"

	"billhook/dom"
)

// sample has a loop, choices, nodes of no way, an Exit that goes on, and
// numbers that are no nodes.
func sample() [][]int {
	return [][]int{{1, 2}, {3, 3}, {3, -1}, {4, 8, 0}, {5, 6}, {4, 99}, {7, 3}, {9, 8, highest}, {8, 8}, {10, 0}, {2, lowest}}
}

// roomy is the same list with spare room behind it.
func roomy[T any](l []T) []T {
	return append(make([]T, 0, len(l)+5), l...)
}

// TestArgumentsStay: P3, nothing that is handed in is written into, nor what
// stands behind it in its array.
func TestArgumentsStay(t *testing.T) {
	next := roomy(sample())
	for n, l := range next {
		next[n] = roomy(l)
	}
	from := roomy([]int{2, -1, 0})
	for range 2 {
		dom.Reach(next, from...)
		dom.Post(next)
		dom.Least(next)
		dom.Control(next)
	}
	if !sameRows(next, sample()) || list(from) != "2,-1,0" {
		t.Error("written into")
	}
	for _, l := range append(slices.Clone(next), from) {
		if list(l[len(l):cap(l)]) != "0,0,0,0,0" {
			t.Error("written behind numbers")
		}
	}
	for _, l := range next[len(next):cap(next)] {
		if l != nil {
			t.Error("written behind lists")
		}
	}
}

// spoil writes into a list, and into its spare room.
func spoil[T any](l []T, x T) {
	l = l[:cap(l)]
	for i := range l {
		l[i] = x
	}
}

// apart fails, if two of these lists share memory; they are spoilt.
func apart[T comparable](t *testing.T, what string, l [][]T, x T) {
	t.Helper()
	kept := [][]T{}
	for _, row := range l {
		kept = append(kept, slices.Clone(row))
	}
	for i, row := range l {
		spoil(row[len(row):], x)
		if !sameRows(l, kept) {
			t.Errorf("%s: behind list %d stands another one", what, i)
		}
	}
	for i, row := range l {
		spoil(row, x)
		if !sameRows(l[i+1:], kept[i+1:]) {
			t.Errorf("%s: list %d shares memory with one behind it", what, i)
		}
	}
}

// TestAnswersApart: P3, an answer is new memory, spare room too: no two lists
// share any, and none is kept, nor any argument.
func TestAnswersApart(t *testing.T) {
	next, from := sample(), []int{4, 7}
	post, least, control, reach := dom.Post(next), dom.Least(next), dom.Control(next), dom.Reach(next, from...)
	kept := [][]bool{}
	for _, row := range post {
		kept = append(kept, slices.Clone(row))
	}
	lists := append(slices.Clone(control), least)
	keptLists := [][]int{}
	for _, l := range lists {
		keptLists = append(keptLists, slices.Clone(l))
	}
	keptReach := slices.Clone(reach)
	apart(t, "Post, Reach", append(slices.Clone(post), reach), true)
	apart(t, "Post, Reach", append(slices.Clone(post), reach), false)
	apart(t, "Least, Control", lists, -7)
	spoil(post, nil)
	spoil(control, nil)
	if !sameRows(next, sample()) || list(from) != "4,7" {
		t.Error("an answer shares memory with what was handed in")
	}
	if !sameRows(dom.Post(next), kept) || !sameRows(append(dom.Control(next), dom.Least(next)), keptLists) || !slices.Equal(dom.Reach(next, from...), keptReach) {
		t.Error("an answer was kept")
	}
}

// TestSameAnswers: P4, answers hang on arguments alone, whoever else calls.
func TestSameAnswers(t *testing.T) {
	next, other := sample(), sample()[1:]
	post, least, control, reach := dom.Post(next), dom.Least(next), dom.Control(next), dom.Reach(next, 4)
	var done sync.WaitGroup
	for range 8 {
		done.Go(func() {
			for range 500 {
				dom.Control(other)
				dom.Reach(other, 0, 1)
				if !sameRows(dom.Post(next), post) || !slices.Equal(dom.Least(next), least) || !sameRows(dom.Control(next), control) || !slices.Equal(dom.Reach(next, 4), reach) {
					t.Error("another answer")
				}
			}
		})
	}
	done.Wait()
}

// TestLongChains: P1, more nodes than a stack is deep, ahead and back.
func TestLongChains(t *testing.T) {
	const many = 2000000
	next := make([][]int, many)
	for n := range many - 1 {
		next[n] = []int{n + 1}
	}
	least, control := dom.Least(next), dom.Control(next)
	for n := range many - 1 {
		if least[n] != n+1 || len(control[n]) > 0 {
			t.Fatalf("of %d: %d, %v", n, least[n], control[n])
		}
	}
	if n := len(which(dom.Reach(next, 0))); n != many {
		t.Errorf("one comes to %d", n)
	}
	for n := range many - 1 { // back to node 0: no way but from there
		next[n] = []int{max(n-1, 0)}
	}
	next[0] = []int{many - 1, 0}
	least, control = dom.Least(next), dom.Control(next)
	for n := 1; n < many-1; n++ {
		if least[n] != n-1 || len(control[n]) > 0 {
			t.Fatalf("of %d: %d, %v", n, least[n], control[n])
		}
	}
	if least[0] != many-1 || list(control[0]) != "0" {
		t.Errorf("of 0: %d, %v", least[0], control[0])
	}
}

// nest is of loops, each in the one ahead of it.
func nest(many int) [][]int {
	next := make([][]int, many+1)
	for n := range many {
		next[n] = []int{min(n+1, many-1), n - 1}
	}
	next[0][1] = many
	return next
}

// TestDeepLoops: P1, loops as deep as programs never are.
func TestDeepLoops(t *testing.T) {
	const many = 300000
	least, control := dom.Least(nest(many)), dom.Control(nest(many))
	for n := 1; n < many; n++ {
		if least[n] != n-1 || !slices.Equal(control[n], []int{n - 1, n}) {
			t.Fatalf("of %d: %d, %v", n, least[n], control[n])
		}
	}
	if least[0] != many || list(control[0]) != "0" || least[many] != -1 || len(control[many]) > 0 {
		t.Errorf("of 0: %d, %v", least[0], control[0])
	}
}

// TestManyEdges: P1, of nodes that all go to all, and to no node, many times.
func TestManyEdges(t *testing.T) {
	const many = 700
	next := make([][]int, many)
	for n := range next {
		for to := range many + 2 {
			next[n] = append(next[n], to-1, to-1)
		}
	}
	for n, l := range dom.Control(next) {
		if n < many-1 && len(l) != many || n == many-1 && list(l) != list([]int{many - 1}) {
			t.Fatalf("%d depends on %d", n, len(l))
		}
	}
	for n, row := range dom.Post(next) {
		if !slices.Equal(which(row), slices.Compact([]int{n, many - 1})) {
			t.Fatalf("%d: %v", n, which(row))
		}
	}
}

// TestManyOfNoWay: P1, of a chain from each node of which one may also come, by
// many edges, to where there is no way.
func TestManyOfNoWay(t *testing.T) {
	const many = 2000
	const last, trap, exit = many - 3, many - 2, many - 1
	next := make([][]int, many)
	for n := range trap {
		next[n] = slices.Repeat([]int{n + 1, trap}, many/4)
	}
	next[last], next[trap] = []int{trap, exit}, []int{trap}
	control := dom.Control(next)
	for n := range trap {
		// It is on each way from all ahead of it, but where there is no way.
		if l := control[n]; len(l) != trap-n || l[0] != n || l[len(l)-1] != last {
			t.Fatalf("%d depends on %d", n, len(l))
		}
	}
	if len(control[trap]) != exit || len(control[exit]) != 0 {
		t.Errorf("the last two depend on %d, and %d", len(control[trap]), len(control[exit]))
	}
}

// TestManyByChance: P1, of a large graph what is told to be on each way from a
// node is on each from where its edges go.
func TestManyByChance(t *testing.T) {
	m := maker{rand.New(rand.NewSource(5))}
	next := m.program(200000)
	least := dom.Least(next)
	exit := len(next) - 1
	for n, l := range next {
		if least[n] < 0 {
			continue
		}
		for _, to := range l {
			on := to
			for on != least[n] && on != exit && on >= 0 {
				on = least[on]
			}
			if on >= 0 && on != least[n] {
				t.Fatalf("%d is not on a way from %d by %d", least[n], n, to)
			}
		}
	}
}
