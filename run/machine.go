package run

import (
	"billhook/api"
	"billhook/eval"
	"billhook/tree"
)

// watcher is shown each node of main that comes on, with main's names.
type watcher func(n *node, main *eval.Env)

// machine is what all frames of a run have in common.
type machine struct {
	prog  tree.Prog
	code  [][]node // of each Func
	input []int64  // that is left
	fuel  int
	steps int
	where int // the node of main that came on last, or was to
	watch watcher
}

func newMachine(p tree.Prog, in []int64, fuel int, watch watcher) *machine {
	m := &machine{prog: p, input: in, fuel: fuel, watch: watch}
	for _, f := range p.Funcs {
		nodes, _ := numbered(f.Body, 0)
		m.code = append(m.code, nodes)
	}
	return m
}

// play runs main, and tells the trap that ended the run. Wherever a trap is met
// it comes up as a Trap that is panicked with.
func (m *machine) play() (trap api.Trap) {
	defer func() {
		if t, trapped := recover().(api.Trap); trapped {
			trap = t
		}
	}()
	m.enter(len(m.prog.Funcs)-1, mainDepth)
	return api.None
}

// enter runs the Func at i in a new frame, and tells what it ends with.
func (m *machine) enter(i, depth int, args ...int64) int64 {
	f := &frame{machine: m, Env: eval.New(m.prog.Funcs[i], args...), depth: depth}
	f.doings = f.table()
	f.run(m.code[i])
	return f.result
}

// burn takes a step.
func (m *machine) burn() {
	if m.steps == m.fuel {
		panic(api.Fuel)
	}
	m.steps++
}

// next takes a number of the input; 0, if there is none left.
func (m *machine) next() (n int64) {
	if len(m.input) > 0 {
		n, m.input = m.input[0], m.input[1:]
	}
	return n
}

// place tells where such a run ended, as a Result does.
func (m *machine) place(trap api.Trap) int {
	if trap == api.None {
		return -1
	}
	return m.where
}
