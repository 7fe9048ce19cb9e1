package check

import (
	"slices"

	"billhook/api"
	"billhook/tree"
)

const nowhere = -1

// examiner goes through one program.
type examiner struct {
	prog tree.Prog
	// tags counts the statements of each Tag above 0, as far as they were asked.
	tags map[int]int
}

func newExaminer(p tree.Prog) examiner {
	return examiner{p, map[int]int{}}
}

func (x examiner) program() (e api.Errno, where int) {
	if e := x.whole(); e != api.OK {
		return e, nowhere
	}
	for i := range x.prog.Funcs {
		if e := x.function(i); e != api.OK {
			return e, i
		}
	}
	return api.OK, nowhere
}

// last tells which Func main is, or must be.
func (x examiner) last() int { return len(x.prog.Funcs) - 1 }

// whole tells what is wrong with the program, whatever its statements are.
func (x examiner) whole() api.Errno {
	l := x.prog.Funcs
	return firstOf(
		func() api.Errno { return when(!tree.Right(x.prog), api.ErrArg) },
		func() api.Errno {
			return when(len(l) == 0 || len(l) > api.MaxFuncs || statements(l) > api.MaxNodes, api.ErrBig)
		},
		func() api.Errno { return when(repeats(functions(l)), api.ErrName) },
		func() api.Errno {
			main := l[x.last()]
			return when(main.Name != "main" || len(main.Params) > 0, api.ErrCall)
		},
	)
}

func statements(l []tree.Func) (n int) {
	for _, f := range l {
		n += tree.Count(f.Body)
	}
	return n
}

// functions tells the Funcs' names.
func functions(l []tree.Func) (names []string) {
	for _, f := range l {
		names = append(names, f.Name)
	}
	return names
}

// repeats tells whether two of names are the same.
func repeats(names []string) bool {
	for i, name := range names {
		if slices.Contains(names[:i], name) {
			return true
		}
	}
	return false
}

// function tells what is wrong with the Func at i.
func (x examiner) function(i int) api.Errno {
	f := x.prog.Funcs[i]
	return firstOf(
		func() api.Errno { return when(large(f), api.ErrBig) },
		func() api.Errno { return when(repeats(declared(f)), api.ErrName) },
		func() api.Errno { return ofEachStmt(f.Body, false, x.asker(i)) },
	)
}

func large(f tree.Func) bool {
	return len(f.Params)+len(f.Vars) > api.MaxVars ||
		slices.ContainsFunc(f.Vars, func(d tree.Decl) bool { return d.Size > api.MaxSize })
}

// declared tells the names of f's Params and Vars.
func declared(f tree.Func) []string {
	names := slices.Clone(f.Params)
	for _, d := range f.Vars {
		names = append(names, d.Name)
	}
	return names
}

// asker makes what is asked of each statement of the Func at i.
func (x examiner) asker(i int) func(s tree.Stmt, looped bool) api.Errno {
	f := x.prog.Funcs[i]
	return func(s tree.Stmt, looped bool) api.Errno {
		return firstOf(
			func() api.Errno { return when(s.Tag > 0 && !x.mayTag(i, s.Tag), api.ErrTag) },
			func() api.Errno { return when(jumps(s) && !looped, api.ErrJump) },
			func() api.Errno { return target(f, s) },
			func() api.Errno { return x.callee(s) },
			func() api.Errno {
				return ofEachPlace(s.E, func(e tree.Expr) api.Errno { return named(f, e.Name, e.Kind == tree.Index) })
			},
		)
	}
}

// mayTag tells whether a statement of the Func at i may have this tag, and
// keeps it.
func (x examiner) mayTag(i, tag int) bool {
	x.tags[tag]++
	return i == x.last() && x.tags[tag] == 1
}

func jumps(s tree.Stmt) bool {
	return s.Kind == tree.Break || s.Kind == tree.Continue
}

// target tells what is wrong with what s sets.
func target(f tree.Func, s tree.Stmt) api.Errno {
	if s.Name == "" {
		return api.OK
	}
	return named(f, s.Name, s.Kind == tree.Store)
}

// named tells what is wrong with a name that must be an array of f's, or, if
// not, a number.
func named(f tree.Func, name string, array bool) api.Errno {
	size, known := Size(f, name)
	return firstOf(
		func() api.Errno { return when(!known, api.ErrName) },
		func() api.Errno { return when((size > 0) != array, api.ErrType) },
	)
}

// callee tells what is wrong with the Func that s calls.
func (x examiner) callee(s tree.Stmt) api.Errno {
	if s.Kind != tree.Call {
		return api.OK
	}
	i := Find(x.prog, s.Func)
	return firstOf(
		func() api.Errno { return when(i < 0, api.ErrName) },
		func() api.Errno {
			return when(i == x.last() || len(x.prog.Funcs[i].Params) != len(s.E), api.ErrCall)
		},
	)
}
