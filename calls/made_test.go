package calls_test

import (
	"math/rand"
	"slices"
	"testing"

	"billhook/calls"
	"billhook/check"
	"billhook/tree"
)

// flatten lists statements, those below too.
func flatten(l []tree.Stmt) (all []tree.Stmt) {
	for _, s := range l {
		all = append(all, s)
		all = append(all, flatten(s.Body)...)
		all = append(all, flatten(s.Else)...)
	}
	return all
}

// paths tells of each two Funcs whether one comes from the first to the second
// by one call or more.
func paths(p tree.Prog) [][]bool {
	n := len(p.Funcs)
	to := make([][]bool, n)
	for i, f := range p.Funcs {
		to[i] = make([]bool, n)
		for _, s := range flatten(f.Body) {
			if k := check.Find(p, s.Func); s.Kind == tree.Call && k >= 0 {
				to[i][k] = true
			}
		}
	}
	for k := range n {
		for i := range n {
			for j := range n {
				to[i][j] = to[i][j] || to[i][k] && to[k][j]
			}
		}
	}
	return to
}

// most tells how many steps a run of the Func at i may have, if each way
// through it is gone; false, if there is no such number.
func most(p tree.Prog, i, frames int) (steps int, bound bool) {
	if frames > len(p.Funcs) {
		return 0, false
	}
	for _, s := range flatten(p.Funcs[i].Body) {
		steps++
		if s.Kind == tree.While {
			return 0, false
		}
		if k := check.Find(p, s.Func); s.Kind == tree.Call && k >= 0 {
			n, bound := most(p, k, frames+1)
			if !bound {
				return 0, false
			}
			steps += n
		}
	}
	return steps, true
}

// runner goes through programs by chance, whatever they reckon.
type runner struct {
	*rand.Rand
	p    tree.Prog
	fuel int
}

// run tells whether there was fuel for all.
func (r *runner) run(l []tree.Stmt) bool {
	for _, s := range l {
		for again := true; again; {
			if r.fuel--; r.fuel < 0 {
				return false
			}
			body := s.Body
			if again = s.Kind == tree.While && r.Intn(4) > 0; s.Kind == tree.If && r.Intn(2) > 0 {
				body = s.Else
			}
			if k := check.Find(r.p, s.Func); s.Kind == tree.Call && k >= 0 {
				body = r.p.Funcs[k].Body
			}
			if !r.run(body) {
				return false
			}
		}
	}
	return true
}

func anyName(r *rand.Rand) string {
	l := []string{"a", "b", "c", "d", "e", "f", "main", "none", ""}
	return l[r.Intn(len(l))]
}

// anyStmts are right, or, if wrong, perhaps not.
func anyStmts(r *rand.Rand, deep int, wrong bool) (l []tree.Stmt) {
	for range r.Intn(3) {
		s := tree.Stmt{Kind: []int{tree.Assign, tree.Read, tree.Call, tree.Call, tree.Call, tree.If, tree.If, tree.While}[r.Intn(8)]}
		if wrong && r.Intn(3) == 0 {
			s.Kind = r.Intn(13) - 1
		}
		if s.Kind == tree.Call || wrong {
			s.Func = anyName(r)
		}
		if deep > 0 && (s.Kind == tree.If || s.Kind == tree.While || wrong) {
			s.Body = anyStmts(r, deep-1, wrong)
		}
		if deep > 0 && (s.Kind == tree.If || wrong) {
			s.Else = anyStmts(r, deep-1, wrong)
		}
		l = append(l, s)
	}
	return l
}

func anyProg(r *rand.Rand) (p tree.Prog) {
	wrong := r.Intn(2) == 0
	for _, name := range []string{"a", "b", "c", "d", "e", "main"}[r.Intn(7):] {
		if wrong {
			name = anyName(r)
		}
		p.Funcs = append(p.Funcs, tree.Func{Name: name, Body: anyStmts(r, 2, wrong)})
	}
	return p
}

// TestMadeCalled: P6.1, of programs made by chance.
func TestMadeCalled(t *testing.T) {
	r := rand.New(rand.NewSource(1))
	for range 3000 {
		p := anyProg(r)
		for i, f := range p.Funcs {
			got := calls.Called(f.Body)
			if !slices.IsSorted(got) || len(slices.Compact(slices.Clone(got))) != len(got) {
				t.Errorf("Called tells %q", got)
			}
			for _, name := range append(got, "a", "none", "") {
				want := slices.ContainsFunc(flatten(f.Body), func(s tree.Stmt) bool { return s.Kind == tree.Call && s.Func == name })
				if slices.Contains(got, name) != want {
					t.Errorf("Called tells %q; of %q: %t", got, name, want)
				}
			}
			l := []int{}
			for _, name := range got {
				if k := check.Find(p, name); k >= 0 {
					l = append(l, k)
				}
			}
			slices.Sort(l)
			if next := calls.Graph(p); len(next) != len(p.Funcs) || !slices.Equal(next[i], l) {
				t.Errorf("Graph tells %v; of %d: %v", next, i, l)
			}
		}
	}
}

// TestMadeFrom: P6.2, From of programs made by chance.
func TestMadeFrom(t *testing.T) {
	r := rand.New(rand.NewSource(2))
	for range 3000 {
		p := anyProg(r)
		to := paths(p)
		at := []int{}
		for range r.Intn(4) {
			at = append(at, r.Intn(9)-1)
		}
		got := calls.From(p, at...)
		if len(got) != len(p.Funcs) {
			t.Fatalf("From tells %d of %d", len(got), len(p.Funcs))
		}
		for i := range got {
			want := slices.ContainsFunc(at, func(k int) bool { return k == i || k >= 0 && k < len(to) && to[k][i] })
			if got[i] != want {
				t.Errorf("From %v tells %v; of %d: %t", at, got, i, want)
			}
		}
	}
}

// TestMadeAsked: P6.2, what is asked of each Func of programs made by chance.
func TestMadeAsked(t *testing.T) {
	r := rand.New(rand.NewSource(3))
	told := map[string]int{}
	for range 5000 {
		p := anyProg(r)
		to := paths(p)
		reads, recurs, ends := calls.Reads(p), calls.Recurs(p), calls.Ends(p)
		if len(reads) != len(to) || len(recurs) != len(to) || len(ends) != len(to) {
			t.Fatal("too many, or too few")
		}
		for i := range to {
			read := false
			for k, f := range p.Funcs {
				read = read || (k == i || to[i][k]) && slices.ContainsFunc(flatten(f.Body), func(s tree.Stmt) bool { return s.Kind == tree.Read })
			}
			_, bound := most(p, i, 1)
			if reads[i] != read || recurs[i] != to[i][i] || ends[i] != bound {
				t.Errorf("%t, %t, %t, not %t, %t, %t of %d of\n%v", reads[i], recurs[i], ends[i], read, to[i][i], bound, i, p)
			}
			for what, is := range map[string]bool{"reads": read, "recurs": to[i][i], "ends": bound} {
				if is {
					told[what]++
				}
			}
		}
	}
	for _, what := range []string{"reads", "recurs", "ends"} {
		if told[what] < 1000 {
			t.Errorf("%s was told %d times", what, told[what])
		}
	}
}

// TestMadeComponents: P6.2 and P6.3, each Func is in one list, with those that
// it comes to and that come to it.
func TestMadeComponents(t *testing.T) {
	r := rand.New(rand.NewSource(4))
	long := 0
	for range 5000 {
		p := anyProg(r)
		to := paths(p)
		want := [][]int{}
		for i := range to {
			own := []int{}
			for k := range to {
				if k == i || to[i][k] && to[k][i] {
					own = append(own, k)
				}
			}
			if own[0] == i {
				want = append(want, own)
			}
			long = max(long, len(own))
		}
		got := calls.Components(p)
		holdLists(t, "Components", got, want)
		in := make([]int, len(to))
		for _, i := range slices.Concat(got...) {
			in[i]++
		}
		if slices.ContainsFunc(in, func(n int) bool { return n != 1 }) {
			t.Errorf("in so many lists: %v", in)
		}
	}
	if long < 4 {
		t.Errorf("lists of %d at most", long)
	}
}

// TestMadeEnds: P6.3, what Ends runs so many steps at most, whatever it is
// given.
func TestMadeEnds(t *testing.T) {
	r := rand.New(rand.NewSource(5))
	for range 3000 {
		p := anyProg(r)
		for i, ends := range calls.Ends(p) {
			if !ends {
				continue
			}
			steps, bound := most(p, i, 1)
			if !bound {
				t.Fatalf("no bound of %d of\n%v", i, p)
			}
			for range 4 {
				if way := (&runner{r, p, steps}); !way.run(p.Funcs[i].Body) {
					t.Errorf("above %d steps of %d of\n%v", steps, i, p)
				}
			}
		}
	}
}
