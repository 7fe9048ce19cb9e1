package check_test

import (
	"slices"
	"strings"
	"testing"

	"billhook/api"
	"billhook/check"
	"billhook/tree"
)

// fault is one thing that is wrong with the sample, and what is told of it.
type fault struct {
	e     api.Errno
	where int
	make  func(p *tree.Prog)
}

// stmt is one of a Func's, by the places on the way to it; -1 goes to Else.
func stmt(p *tree.Prog, f string, way ...int) *tree.Stmt {
	l := p.Funcs[check.Find(*p, f)].Body
	s := &l[way[0]]
	for _, i := range way[1:] {
		if i < 0 {
			l = s.Else
			i = 0
		} else {
			l = s.Body
		}
		s = &l[i]
	}
	return s
}

func function(p *tree.Prog, name string) *tree.Func { return &p.Funcs[check.Find(*p, name)] }

// faultsOfWhole are in the order of P5.2.
func faultsOfWhole() []fault {
	return []fault{
		{api.ErrArg, -1, func(p *tree.Prog) { stmt(p, "main", 3).E = nil }},
		{api.ErrBig, -1, func(p *tree.Prog) {
			f := function(p, "main")
			f.Body = append(f.Body, slices.Repeat(block(of(tree.Break)), api.MaxNodes)...)
		}},
		{api.ErrBig, -1, func(p *tree.Prog) { p.Funcs = append(p.Funcs, many(api.MaxFuncs).Funcs...) }},
		{api.ErrName, -1, func(p *tree.Prog) {
			p.Funcs = slices.Insert(p.Funcs, 1, tree.Func{Name: "q", Body: block(of(tree.Break))}, tree.Func{Name: "q"})
		}},
		{api.ErrCall, -1, func(p *tree.Prog) { p.Funcs = append(p.Funcs, tree.Func{Name: "last"}) }},
		{api.ErrCall, -1, func(p *tree.Prog) { function(p, "main").Params = []string{"i", "i"} }},
	}
}

// faultsOfFunc are of one that has at least one Var.
func faultsOfFunc(name string, where int) []fault {
	return []fault{
		{api.ErrBig, where, func(p *tree.Prog) {
			f := function(p, name)
			f.Vars = append(f.Vars, slices.Repeat([]tree.Decl{{Name: "u"}}, api.MaxVars)...)
		}},
		{api.ErrBig, where, func(p *tree.Prog) { f := function(p, name); f.Vars = append(f.Vars, tree.Decl{Name: "w", Size: 65}) }},
		{api.ErrName, where, func(p *tree.Prog) { f := function(p, name); f.Vars = append(f.Vars, f.Vars[0]) }},
	}
}

func faultsOfF() []fault {
	return []fault{
		{api.ErrTag, 0, func(p *tree.Prog) { stmt(p, "f", 0).Tag = 9 }},
		{api.ErrName, 0, func(p *tree.Prog) { stmt(p, "f", 0).Name = "none" }},
		{api.ErrName, 0, func(p *tree.Prog) { stmt(p, "f", 0).E[0].Kids[0].Name = "none" }},
		{api.ErrType, 0, func(p *tree.Prog) { stmt(p, "f", 0).E[0].Kids[1].Name = "b" }},
		{api.ErrName, 0, func(p *tree.Prog) { stmt(p, "f", 0).E[0].Kids[1].Kids[0].Name = "none" }},
		{api.ErrType, 0, func(p *tree.Prog) { stmt(p, "f", 1).Name = "x" }},
		{api.ErrType, 0, func(p *tree.Prog) { stmt(p, "f", 1).E[0].Name = "l" }},
		{api.ErrName, 0, func(p *tree.Prog) { stmt(p, "f", 1).E[1].Kids[1].Name = "none" }},
		{api.ErrTag, 0, func(p *tree.Prog) { stmt(p, "f", 2).Tag = 1 }},
		{api.ErrType, 0, func(p *tree.Prog) { stmt(p, "f", 2).Name = "l" }},
		{api.ErrName, 0, func(p *tree.Prog) { stmt(p, "f", 2).Func = "h" }},
		{api.ErrType, 0, func(p *tree.Prog) { stmt(p, "f", 2).E[0].Name = "l" }},
		{api.ErrType, 0, func(p *tree.Prog) { stmt(p, "f", 3).E[0].Name = "a" }},
		{api.ErrName, 0, func(p *tree.Prog) { stmt(p, "f", 3, 0).E[0].Name = "none" }},
		{api.ErrTag, 0, func(p *tree.Prog) { stmt(p, "f", 3, 0, 0).Tag = 3 }},
		{api.ErrTag, 0, func(p *tree.Prog) { stmt(p, "f", 3, 0, -1).Tag = 3 }},
		{api.ErrType, 0, func(p *tree.Prog) { stmt(p, "f", 3, 1).Name = "l" }},
		{api.ErrName, 0, func(p *tree.Prog) { stmt(p, "f", 4).E[0].Name = "none" }},
		{api.ErrJump, 0, func(p *tree.Prog) { f := function(p, "f"); f.Body = append(f.Body, of(tree.Continue)) }},
	}
}

func faultsOfG() []fault {
	return []fault{
		{api.ErrName, 1, func(p *tree.Prog) { stmt(p, "g", 0).Name = "none" }},
		{api.ErrCall, 1, func(p *tree.Prog) { s := stmt(p, "g", 0); s.E = append(s.E, v("none")) }},
		{api.ErrName, 1, func(p *tree.Prog) { stmt(p, "g", 0).E[1].Name = "none" }},
		{api.ErrCall, 1, func(p *tree.Prog) { stmt(p, "g", 1).Func = "main" }},
		{api.ErrName, 1, func(p *tree.Prog) { stmt(p, "g", 2).E[0].Name = "none" }},
	}
}

func faultsOfMain() []fault {
	return []fault{
		{api.ErrType, 2, func(p *tree.Prog) { stmt(p, "main", 0).Name = "l" }},
		{api.ErrName, 2, func(p *tree.Prog) { stmt(p, "main", 1).E[0].Kids[0].Name = "none" }},
		{api.ErrTag, 2, func(p *tree.Prog) { stmt(p, "main", 1, 0).Tag = 1 }},
		{api.ErrType, 2, func(p *tree.Prog) { stmt(p, "main", 1, 0).E[0].Name = "i" }},
		{api.ErrTag, 2, func(p *tree.Prog) { stmt(p, "main", 1, 0, 0).Tag = 2 }},
		{api.ErrName, 2, func(p *tree.Prog) { stmt(p, "main", 1, 0, 0).Name = "none" }},
		{api.ErrCall, 2, func(p *tree.Prog) { stmt(p, "main", 1, 0, 0).E = []tree.Expr{v("none")} }},
		{api.ErrTag, 2, func(p *tree.Prog) { stmt(p, "main", 1, 0, -1).Tag = 3 }},
		{api.ErrType, 2, func(p *tree.Prog) { stmt(p, "main", 1, 0, -1).Name = "k" }},
		{api.ErrType, 2, func(p *tree.Prog) { stmt(p, "main", 1, 0, -1).E[1].Name = "l" }},
		{api.ErrName, 2, func(p *tree.Prog) { stmt(p, "main", 1, 1).E[0].Kids[0].Name = "none" }},
		{api.ErrTag, 2, func(p *tree.Prog) { stmt(p, "main", 2).Tag = 1000000 }},
		{api.ErrType, 2, func(p *tree.Prog) { stmt(p, "main", 2).E[0].Name = "l" }},
		{api.ErrTag, 2, func(p *tree.Prog) { stmt(p, "main", 3).Tag = 5 }},
		{api.ErrType, 2, func(p *tree.Prog) { stmt(p, "main", 3).E[0].Name = "l" }},
		{api.ErrJump, 2, func(p *tree.Prog) { f := function(p, "main"); f.Body = append(f.Body, of(tree.Break)) }},
	}
}

// TestCheckOrder: P5.2, of several errors the one that stands first in the
// promise: each fault by itself, each two, and each with all that are behind.
func TestCheckOrder(t *testing.T) {
	all := slices.Concat(faultsOfWhole(), faultsOfFunc("f", 0), faultsOfF(), faultsOfFunc("g", 1), faultsOfG(), faultsOfFunc("main", 2), faultsOfMain())
	for i, first := range all {
		p := parsed(t, sample)
		first.make(&p)
		hold(t, p, first.e, first.where)
		for _, later := range all[i+1:] {
			p := parsed(t, sample)
			later.make(&p)
			first.make(&p)
			hold(t, p, first.e, first.where)
		}
		p = parsed(t, sample)
		for _, each := range slices.Backward(all[i:]) {
			each.make(&p)
		}
		hold(t, p, first.e, first.where)
	}
}

// TestCheckStmtOrder: P5.2, what is asked of one statement, in its order.
func TestCheckStmtOrder(t *testing.T) {
	args := []tree.Expr{v("none"), v("l")}
	steps := []struct {
		s    tree.Stmt
		want api.Errno
	}{
		{tree.Stmt{Kind: tree.Call, Tag: 1, Name: "none", Func: "none", E: args}, api.ErrTag},
		{tree.Stmt{Kind: tree.Call, Tag: 2, Name: "none", Func: "none", E: args}, api.ErrName},
		{tree.Stmt{Kind: tree.Call, Tag: 2, Name: "l", Func: "none", E: args}, api.ErrType},
		{tree.Stmt{Kind: tree.Call, Tag: 2, Name: "n", Func: "none", E: args}, api.ErrName},
		{tree.Stmt{Kind: tree.Call, Tag: 2, Name: "n", Func: "main", E: args}, api.ErrCall},
		{tree.Stmt{Kind: tree.Call, Tag: 2, Name: "n", Func: "f", E: args}, api.ErrCall},
		{tree.Stmt{Kind: tree.Call, Tag: 2, Name: "n", Func: "f", E: args[:1]}, api.ErrName},
		{tree.Stmt{Kind: tree.Call, Tag: 2, Name: "n", Func: "f", E: args[1:]}, api.ErrType},
		{tree.Stmt{Kind: tree.Break, Tag: 1}, api.ErrTag},
		{tree.Stmt{Kind: tree.Break, Tag: 2}, api.ErrJump},
	}
	for _, c := range steps {
		p := parsed(t, "func f(a) { } func main() { var n, l[2]; @1 n = 1; }")
		p.Funcs[1].Body = append(p.Funcs[1].Body, c.s, tree.Stmt{Kind: tree.Break, Tag: 1})
		hold(t, p, c.want, 1)
	}
	for s, want := range map[string]api.Errno{
		"if (l) { none = 1; }": api.ErrType, "if (n) { none = 1; } else { l = 1; }": api.ErrName, "if (n) { } else { l = 1; } none = 1;": api.ErrType, "while (none) { l = 1; }": api.ErrName, "while (n) { if (n) { l = 1; } } break;": api.ErrType,
		"n = none; break;": api.ErrName, "break; n = none;": api.ErrJump, "if (n) { break; } n = none;": api.ErrJump, "n = l + none;": api.ErrType, "n = none + l;": api.ErrName, "none[l] = l;": api.ErrName, "n[none] = 1;": api.ErrType,
	} {
		holdBody(t, s, want)
		holdBody(t, strings.Repeat("n = 1; ", 3)+s+" none = none;", want)
	}
}
