package run

import (
	"billhook/api"
	"billhook/check"
	"billhook/eval"
	"billhook/tree"
)

// mainDepth is how many frames there are, as main runs.
const mainDepth = 1

// way is how it goes on behind a statement.
type way int

const (
	onward way = iota
	broken     // behind the innermost While
	again      // with the innermost While
	ended      // nowhere: the frame has its result
)

// doing is what a statement of one kind does.
type doing func(n *node) way

// frame is a Func that runs: its own names, on the machine of all.
type frame struct {
	*machine
	*eval.Env
	depth  int // how many frames there are, as it runs
	doings [10]doing
	result int64
}

// table lists what statements do by their kinds.
func (f *frame) table() [10]doing {
	return [...]doing{
		tree.Assign:   f.assign,
		tree.Store:    f.store,
		tree.Read:     f.read,
		tree.Call:     f.call,
		tree.If:       f.branch,
		tree.While:    f.loop,
		tree.Break:    f.leave,
		tree.Continue: f.resume,
		tree.Return:   f.end,
		tree.Assert:   f.assert,
	}
}

// run runs statements one behind the other, up to one that goes on elsewhere.
func (f *frame) run(l []node) way {
	for i := range l {
		n := &l[i]
		f.comeOn(n)
		if w := f.doings[n.Kind](n); w != onward {
			return w
		}
	}
	return onward
}

// comeOn has where be n already where there is no step left for it.
func (f *frame) comeOn(n *node) {
	main := f.depth == mainDepth
	if main {
		f.where = n.number
	}
	f.burn()
	if main {
		f.watch(n, f.Env)
	}
}

// reckon tells what x is; a trap ends the run.
func (f *frame) reckon(x tree.Expr) int64 {
	n, trap := f.Eval(x)
	if trap != api.None {
		panic(trap)
	}
	return n
}

// holds tells whether what n asks is not 0.
func (f *frame) holds(n *node) bool { return f.reckon(n.E[0]) != 0 }

func (f *frame) assign(n *node) way {
	f.Set(n.Name, f.reckon(n.E[0]))
	return onward
}

func (f *frame) store(n *node) way {
	i := f.reckon(n.E[0])
	x := f.reckon(n.E[1])
	if !f.Put(n.Name, i, x) {
		panic(api.Bounds)
	}
	return onward
}

func (f *frame) read(n *node) way {
	f.Set(n.Name, f.next())
	return onward
}

func (f *frame) call(n *node) way {
	args := make([]int64, len(n.E))
	for i, x := range n.E {
		args[i] = f.reckon(x)
	}
	if f.depth == api.MaxFrames {
		panic(api.Deep)
	}
	f.Set(n.Name, f.enter(check.Find(f.prog, n.Func), f.depth+1, args...))
	return onward
}

func (f *frame) branch(n *node) way {
	if f.holds(n) {
		return f.run(n.body)
	}
	return f.run(n.other)
}

func (f *frame) loop(n *node) way {
	for f.holds(n) {
		switch f.run(n.body) {
		case broken:
			return onward
		case ended:
			return ended
		}
		f.comeOn(n)
	}
	return onward
}

func (f *frame) leave(*node) way { return broken }

func (f *frame) resume(*node) way { return again }

func (f *frame) end(n *node) way {
	f.result = f.reckon(n.E[0])
	return ended
}

func (f *frame) assert(n *node) way {
	if !f.holds(n) {
		panic(api.False)
	}
	return onward
}
