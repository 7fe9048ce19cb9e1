package dom_test

import (
	"math/rand"
	"slices"
	"testing"

	"billhook/dom"
)

// maker makes graphs by chance.
type maker struct{ *rand.Rand }

// graph has some edges a node: of sparse ones many have no way to Exit; of
// those that are wrong some numbers are no nodes.
func (m maker) graph(many, edges int, wrong bool) [][]int {
	next := make([][]int, many)
	for n := range next {
		for range m.Intn(edges + 1) {
			to := m.Intn(many)
			if wrong && m.Intn(4) == 0 {
				to = []int{-1, many, many + 1, -many, lowest, highest, m.Int(), -m.Int()}[m.Intn(8)]
			}
			next[n] = append(next[n], to)
		}
	}
	return next
}

// program is more like one: each node but the last goes to the one behind it,
// and some to another one, ahead or behind.
func (m maker) program(many int) [][]int {
	next := make([][]int, many)
	for n := range many - 1 {
		next[n] = []int{n + 1}
		if m.Intn(3) == 0 {
			next[n] = append(next[n], m.Intn(many))
		}
		if m.Intn(6) == 0 {
			next[n] = []int{m.Intn(many)}
		}
	}
	return next
}

func sameRows[T comparable](a, b [][]T) bool {
	return slices.EqualFunc(a, b, slices.Equal[[]T])
}

// hold holds all that is told of next against the oracle's post, and what
// hangs on it.
func hold(t *testing.T, next [][]int, post [][]bool) {
	t.Helper()
	if got := dom.Post(next); !sameRows(got, post) {
		t.Fatalf("Post of %v\ntells %s; asked is %s", next, rows(got), rows(post))
	}
	if got, want := dom.Least(next), least(next, post); !slices.Equal(got, want) {
		t.Fatalf("Least of %v\ntells %v; asked is %v", next, got, want)
	}
	if got, want := dom.Control(next), control(next, post); !sameRows(got, want) {
		t.Fatalf("Control of %v\ntells %v; asked is %v", next, got, want)
	}
}

// TestAllSmall: P10.1 to P10.3, of each graph of up to four nodes, by the ways
// themselves.
func TestAllSmall(t *testing.T) {
	for many := range 5 {
		for edges := range 1 << (many * many) {
			next := make([][]int, many)
			for bit := range many * many {
				if edges>>bit&1 > 0 {
					next[bit/many] = append(next[bit/many], bit%many)
				}
			}
			hold(t, next, postByWays(next))
			for from := range next {
				if got, want := dom.Reach(next, from), comes(next, -1, from); !slices.Equal(got, want) {
					t.Fatalf("Reach of %v from %d\ntells %v; asked is %v", next, from, got, want)
				}
			}
		}
	}
}

// TestMade: P10.1 to P10.3, of graphs by chance.
func TestMade(t *testing.T) {
	m := maker{rand.New(rand.NewSource(1))}
	lost, deep := 0, 0
	for round := range 12000 {
		many := 1 + m.Intn(14)
		next := m.graph(many, 1+round%4, round%3 == 0)
		if round%2 == 0 {
			next = m.program(many)
		}
		told := post(next)
		hold(t, next, told)
		if many < 8 && !sameRows(told, postByWays(next)) {
			t.Fatalf("the oracles tell two things of %v", next)
		}
		if slices.Contains(dom.Least(next)[:many-1], -1) {
			lost++
		}
		if slices.ContainsFunc(told, func(row []bool) bool { return len(which(row)) > 5 && slices.Contains(row, false) }) {
			deep++
		}
		from := []int{}
		for range m.Intn(4) {
			from = append(from, m.Intn(many+4)-2)
		}
		if got, want := dom.Reach(next, from...), comes(next, -1, from...); !slices.Equal(got, want) {
			t.Fatalf("Reach of %v from %v\ntells %v; asked is %v", next, from, got, want)
		}
	}
	if lost < 2000 || deep < 1000 {
		t.Errorf("%d have nodes of no way, %d long chains of what must be passed", lost, deep)
	}
}

// TestMadeLarge: P10.1 to P10.3, of larger graphs.
func TestMadeLarge(t *testing.T) {
	m := maker{rand.New(rand.NewSource(2))}
	for round := range 60 {
		next := m.program(40 + m.Intn(40))
		if round%3 == 0 {
			next = m.graph(40+m.Intn(40), 3, round%2 == 0)
		}
		hold(t, next, post(next))
	}
}

// TestAhead: P10.4, what postdominates a node postdominates what one comes to
// from it ahead of that; Exit postdominates all.
func TestAhead(t *testing.T) {
	m := maker{rand.New(rand.NewSource(3))}
	held := 0
	for round := range 3000 {
		next := m.graph(1+m.Intn(10), 1+round%3, round%5 == 0)
		if round%2 == 0 {
			next = m.program(1 + m.Intn(10))
		}
		told := dom.Post(next)
		for n, row := range told {
			if !row[len(next)-1] || !row[n] {
				t.Fatalf("Post of %v\ntells of %d %v", next, n, row)
			}
			for _, d := range which(row) {
				for _, m := range which(comes(next, d, n)) {
					held++
					if !told[m][d] {
						t.Fatalf("Post of %v\ntells that %d is on each way from %d, but not from %d", next, d, n, m)
					}
				}
			}
		}
	}
	if held < 50000 {
		t.Errorf("%d were held", held)
	}
}

// TestOrderOfEdges: P10.1 to P10.3, and P4: neither the order of edges, nor how
// often each stands, is to be seen in an answer.
func TestOrderOfEdges(t *testing.T) {
	m := maker{rand.New(rand.NewSource(4))}
	for range 3000 {
		next := m.program(1 + m.Intn(12))
		other := make([][]int, len(next))
		for n, l := range next {
			other[n] = append(slices.Clone(l), l...)
			m.Shuffle(len(other[n]), func(i, j int) { other[n][i], other[n][j] = other[n][j], other[n][i] })
		}
		if !sameRows(dom.Post(next), dom.Post(other)) || !slices.Equal(dom.Least(next), dom.Least(other)) || !sameRows(dom.Control(next), dom.Control(other)) {
			t.Fatalf("of %v and %v are told two things", next, other)
		}
	}
}
