package check_test

import (
	"slices"

	"billhook/api"
	"billhook/tree"
)

// found is a thing that is wrong, and how far behind it stands in P5.2.
type found struct {
	rank  []int
	e     api.Errno
	where int
}

// spot is a statement, and how many Whiles are around it.
type spot struct {
	tree.Stmt
	loops int
}

func spots(l []tree.Stmt, loops int) (all []spot) {
	for _, s := range l {
		all = append(all, spot{s, loops})
		if s.Kind == tree.While {
			all = append(all, spots(s.Body, loops+1)...)
		} else {
			all = append(all, spots(s.Body, loops)...)
			all = append(all, spots(s.Else, loops)...)
		}
	}
	return all
}

func places(l []tree.Expr) (all []tree.Expr) {
	for _, e := range l {
		if e.Name != "" {
			all = append(all, e)
		}
		all = append(all, places(e.Kids)...)
	}
	return all
}

// judge finds all that is wrong, and tells what stands first.
func judge(p tree.Prog) (api.Errno, int) {
	if !tree.Right(p) {
		return api.ErrArg, -1
	}
	l := append(wrongWhole(p), found{[]int{99}, api.OK, -1})
	tags := map[int]bool{}
	for i, f := range p.Funcs {
		l = append(l, wrongFunc(f, i)...)
		for n, s := range spots(f.Body, 0) {
			if s.Tag > 0 && (i < len(p.Funcs)-1 || tags[s.Tag]) {
				l = append(l, found{[]int{5, i, 3, n, 0}, api.ErrTag, i})
			}
			tags[s.Tag] = true
			for _, w := range wrongStmt(p, f, s) {
				l = append(l, found{append([]int{5, i, 3, n}, w.rank...), w.e, i})
			}
		}
	}
	first := slices.MinFunc(l, func(a, b found) int { return slices.Compare(a.rank, b.rank) })
	return first.e, first.where
}

func wrongWhole(p tree.Prog) (l []found) {
	all := 0
	seen := map[string]int{}
	for _, f := range p.Funcs {
		all += len(spots(f.Body, 0))
		seen[f.Name]++
	}
	n := len(p.Funcs)
	if n == 0 || n > 16 || all > 400 {
		l = append(l, found{[]int{1}, api.ErrBig, -1})
	}
	if len(seen) < n {
		l = append(l, found{[]int{2}, api.ErrName, -1})
	}
	if n > 0 && (p.Funcs[n-1].Name != "main" || len(p.Funcs[n-1].Params) > 0) {
		l = append(l, found{[]int{3}, api.ErrCall, -1})
	}
	return l
}

// sizes are those of all names of a Func.
func sizes(f tree.Func) map[string]int {
	all := map[string]int{}
	for _, d := range slices.Backward(f.Vars) {
		all[d.Name] = d.Size
	}
	for _, name := range f.Params {
		all[name] = 0
	}
	return all
}

func wrongFunc(f tree.Func, i int) (l []found) {
	many := len(f.Params) + len(f.Vars)
	big := many > 24
	for _, d := range f.Vars {
		big = big || d.Size > 64
	}
	if big {
		l = append(l, found{[]int{5, i, 1}, api.ErrBig, i})
	}
	if len(sizes(f)) < many {
		l = append(l, found{[]int{5, i, 2}, api.ErrName, i})
	}
	return l
}

// wrongName is told at that rank.
func wrongName(f tree.Func, name string, array bool, rank ...int) []found {
	size, known := sizes(f)[name]
	if !known {
		return []found{{rank: rank, e: api.ErrName}}
	}
	if array == (size == 0) {
		return []found{{rank: rank, e: api.ErrType}}
	}
	return nil
}

func wrongStmt(p tree.Prog, f tree.Func, s spot) (l []found) {
	switch s.Kind {
	case tree.Break, tree.Continue:
		if s.loops == 0 {
			l = append(l, found{rank: []int{1}, e: api.ErrJump})
		}
	case tree.Assign, tree.Read, tree.Call, tree.Store:
		l = append(l, wrongName(f, s.Name, s.Kind == tree.Store, 2)...)
	}
	if s.Kind == tree.Call {
		params := map[string]int{}
		for _, g := range p.Funcs {
			params[g.Name] = len(g.Params)
		}
		many, known := params[s.Func]
		if !known {
			l = append(l, found{rank: []int{3}, e: api.ErrName})
		}
		if many != len(s.E) || s.Func == "main" {
			l = append(l, found{rank: []int{4}, e: api.ErrCall})
		}
	}
	for k, e := range places(s.E) {
		l = append(l, wrongName(f, e.Name, e.Kind == tree.Index, 5, k)...)
	}
	return l
}
