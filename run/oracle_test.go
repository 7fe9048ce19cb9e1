package run_test

import (
	"slices"

	"billhook/api"
	"billhook/eval"
	"billhook/run"
	"billhook/tree"
	"billhook/word"
)

// The oracle runs a program in another way: its statements lie in one list a
// Func, each knows by its number where it goes on, and calls are kept in a
// list of what is open.

// outside is where a Func's statements have ended.
const outside = -1

// spot is a statement and where it goes on: where E is not 0, where it is 0,
// behind, and with the While it stands in.
type spot struct {
	tree.Stmt
	yes, no, behind, round int
}

// lay puts l behind the code; behind is what follows it, round the innermost
// While around it.
func lay(code []spot, l []tree.Stmt, behind, round int) []spot {
	for i, s := range l {
		at := len(code)
		other := at + 1 + tree.Count(s.Body)
		o := spot{Stmt: s, yes: at + 1, no: other, behind: other + tree.Count(s.Else), round: round}
		if i == len(l)-1 {
			o.behind = behind
		}
		in, inRound := o.behind, round
		if s.Kind == tree.While {
			in, inRound, o.no = at, at, o.behind
		} else if len(s.Else) == 0 {
			o.no = o.behind
		}
		if len(s.Body) == 0 {
			o.yes = in
		}
		code = append(code, o)
		code = lay(code, s.Body, in, inRound)
		code = lay(code, s.Else, in, inRound)
	}
	return code
}

// opened is a call that has not ended: where it stands, and its names.
type opened struct {
	f, at int
	cells []eval.Cell
}

// find tells the numbers of a name.
func (o opened) find(name string) []int64 {
	return o.cells[slices.IndexFunc(o.cells, func(c eval.Cell) bool { return c.Name == name })].V
}

// value reckons x; a trap is kept in trap, the first one alone.
func (o opened) value(x tree.Expr, trap *api.Trap) int64 {
	if x.Kind == tree.Num {
		return x.N
	}
	if x.Kind == tree.Var {
		return o.find(x.Name)[0]
	}
	a := o.value(x.Kids[0], trap)
	if *trap != api.None {
		return 0
	}
	switch {
	case x.Kind == tree.Index:
		l := o.find(x.Name)
		if a < 0 || a >= int64(len(l)) {
			*trap = api.Bounds
			return 0
		}
		return l[a]
	case x.Kind == tree.Unary:
		n, _ := word.Unary(x.Op, a)
		return n
	case x.Op == "&&" && a == 0:
		return 0
	case x.Op == "||" && a != 0:
		return 1
	}
	b := o.value(x.Kids[1], trap)
	if *trap != api.None {
		return 0
	}
	n, mine := word.Binary(x.Op, a, b)
	*trap = mine
	return n
}

// oracle is a run.
type oracle struct {
	prog   tree.Prog
	code   [][]spot
	in     []int64
	open   []*opened
	trap   api.Trap
	result run.Result
	visits []run.Visit
}

func (o *oracle) enter(f int, args []int64) {
	in := o.prog.Funcs[f]
	x := &opened{f: f}
	for i, name := range in.Params {
		x.cells = append(x.cells, eval.Cell{Name: name, V: []int64{args[i]}})
	}
	for _, d := range in.Vars {
		x.cells = append(x.cells, eval.Cell{Name: d.Name, Array: d.Size > 0, V: make([]int64, max(d.Size, 1))})
	}
	if len(o.code[f]) == 0 {
		x.at = outside
	}
	o.open = append(o.open, x)
}

// end has the innermost call end with n.
func (o *oracle) end(n int64) {
	o.open = o.open[:len(o.open)-1]
	if many := len(o.open); many > 0 {
		caller := o.open[many-1]
		call := o.code[caller.f][caller.at]
		caller.find(call.Name)[0] = n
		caller.at = call.behind
	}
}

// show keeps what a node of main is seen with.
func (o *oracle) show(x *opened, tag, asked int, vars []string) {
	v := run.Visit{Node: x.at}
	for _, c := range x.cells {
		c.V = slices.Clone(c.V)
		v.Cells = append(v.Cells, c)
	}
	o.visits = append(o.visits, v)
	if asked > 0 && tag == asked {
		row := []int64{}
		for _, name := range vars {
			row = append(row, x.find(name)[0])
		}
		o.result.Trace = append(o.result.Trace, row)
	}
}

// do has the innermost call do s, and go on.
func (o *oracle) do(x *opened, s spot) {
	var e []int64
	for _, kid := range s.E {
		e = append(e, x.value(kid, &o.trap))
		if o.trap != api.None {
			return
		}
	}
	to := s.behind
	switch s.Kind {
	case tree.Assign:
		x.find(s.Name)[0] = e[0]
	case tree.Store:
		l := x.find(s.Name)
		if e[0] < 0 || e[0] >= int64(len(l)) {
			o.trap = api.Bounds
			return
		}
		l[e[0]] = e[1]
	case tree.Read:
		n := int64(0)
		if len(o.in) > 0 {
			n = o.in[0]
			o.in = o.in[1:]
		}
		x.find(s.Name)[0] = n
	case tree.Call:
		if len(o.open) >= api.MaxFrames {
			o.trap = api.Deep
			return
		}
		o.enter(slices.IndexFunc(o.prog.Funcs, func(f tree.Func) bool { return f.Name == s.Func }), e)
		return
	case tree.Return:
		o.end(e[0])
		return
	case tree.If, tree.While:
		to = s.yes
		if e[0] == 0 {
			to = s.no
		}
	case tree.Break:
		to = o.code[x.f][s.round].behind
	case tree.Continue:
		to = s.round
	case tree.Assert:
		if e[0] == 0 {
			o.trap = api.False
			return
		}
	}
	x.at = to
}

// foretold says what P8.1 to P8.3 ask of a program that may run.
func foretold(p tree.Prog, in []int64, fuel, tag int, vars []string) (run.Result, []run.Visit) {
	o := &oracle{prog: p, in: in}
	for _, f := range p.Funcs {
		o.code = append(o.code, lay(nil, f.Body, outside, outside))
	}
	o.enter(len(p.Funcs)-1, nil)
	for len(o.open) > 0 && o.trap == api.None {
		x := o.open[len(o.open)-1]
		if x.at == outside {
			o.end(0)
			continue
		}
		if len(o.open) == 1 {
			o.result.Where = x.at
		}
		if o.result.Steps == fuel {
			o.trap = api.Fuel
			break
		}
		o.result.Steps++
		s := o.code[x.f][x.at]
		if len(o.open) == 1 {
			o.show(x, s.Tag, tag, vars)
		}
		o.do(x, s)
	}
	if o.result.Trap = o.trap; o.trap == api.None {
		o.result.Where = -1
	}
	return o.result, o.visits
}
