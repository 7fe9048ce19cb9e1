package run_test

import (
	"slices"
	"testing"

	"billhook/api"
	"billhook/run"
	"billhook/tree"
)

// refused fails, if another error is told of a run, or anything beside it.
func refused(t *testing.T, p tree.Prog, fuel, tag int, vars []string, want api.Errno) {
	t.Helper()
	got, e := run.Run(p, []int64{1}, fuel, tag, vars...)
	if e != want || got.Trap != 0 || got.Steps != 0 || got.Where != 0 || len(got.Trace) > 0 {
		t.Errorf("tag %d, vars %q, fuel %d: error %d, and %v; asked is error %d of\n%.300s", tag, vars, fuel, e, got, want, tree.Put(p))
	}
}

// unseen is so of visits.
func unseen(t *testing.T, p tree.Prog, fuel int, want api.Errno) {
	t.Helper()
	if l, e := run.Visits(p, []int64{1}, fuel); e != want || len(l) > 0 {
		t.Errorf("fuel %d: error %d, and %d visits; asked is error %d", fuel, e, len(l), want)
	}
}

// wrongPrograms are those that may not run, by what is wrong with them.
func wrongPrograms() map[api.Errno][]tree.Prog {
	main := func(l ...tree.Stmt) tree.Prog { return prog(tree.Func{Name: "main", Body: l}) }
	tagged := of(tree.Return, num(1))
	tagged.Tag = 4
	call := func(name string) tree.Stmt { return tree.Stmt{Kind: tree.Call, Name: "x", Func: name} }
	x := []tree.Decl{{Name: "x"}, {Name: "l", Size: 2}}
	return map[api.Errno][]tree.Prog{
		api.ErrArg:  {main(of(tree.Return)), main(of(10)), main(of(-1)), main(of(high)), main(tree.Stmt{Kind: tree.Break, Tag: -1}), prog(tree.Func{}), main(of(tree.Assert, tree.Expr{Kind: 7})), main(of(tree.While, num(1)), tree.Stmt{})},
		api.ErrBig:  {{}, main(slices.Repeat(block(tagged), api.MaxNodes+1)...), prog(tree.Func{Name: "main", Vars: []tree.Decl{{Name: "x", Size: api.MaxSize + 1}}})},
		api.ErrName: {main(set("x", num(1))), main(of(tree.Return, v("x"))), prog(tree.Func{Name: "main"}, tree.Func{Name: "main"}), prog(tree.Func{Name: "main", Vars: x, Body: block(call("f"))}), prog(tree.Func{Name: "f", Body: block(of(tree.Assert, v("a")))}, tree.Func{Name: "main"})},
		api.ErrType: {prog(tree.Func{Name: "main", Vars: x, Body: block(set("l", num(1)))}), prog(tree.Func{Name: "main", Vars: x, Body: block(of(tree.Return, v("l")))}), prog(tree.Func{Name: "main", Vars: x, Body: block(tree.Stmt{Kind: tree.Store, Name: "x", E: []tree.Expr{num(0), num(0)}})})},
		api.ErrJump: {main(of(tree.Break)), main(of(tree.Continue)), prog(tree.Func{Name: "f", Body: block(of(tree.Break))}, tree.Func{Name: "main"})},
		api.ErrTag:  {main(tagged, tagged), prog(tree.Func{Name: "f", Body: block(tagged)}, tree.Func{Name: "main"})},
		api.ErrCall: {prog(tree.Func{Name: "f"}), prog(tree.Func{Name: "main", Params: []string{"a"}}), prog(tree.Func{Name: "main", Vars: x, Body: block(call("main"))}), prog(tree.Func{Name: "f", Params: []string{"a"}}, tree.Func{Name: "main", Vars: x, Body: block(call("f"))})},
	}
}

// TestErrors: P8.2 and P8.3, what may not run, whatever else is wrong.
func TestErrors(t *testing.T) {
	for want, l := range wrongPrograms() {
		for _, p := range l {
			for _, fuel := range []int{0, 5, api.MaxFuel, -1, api.MaxFuel + 1} {
				for _, tag := range []int{0, 4, 5, -1} {
					refused(t, p, fuel, tag, nil, want)
					refused(t, p, fuel, tag, []string{"none", "l"}, want)
				}
				unseen(t, p, fuel, want)
			}
		}
	}
}

// TestErrorsOfFuel: P8.2 and P8.3, fuel from 0 to MaxFuel, and no other.
func TestErrorsOfFuel(t *testing.T) {
	p := parsed(t, "func main() { var x; @3 x = 1; }")
	for _, fuel := range []int{-1, -2, low, low + 1, api.MaxFuel + 1, api.MaxFuel * 2, high, 1 << 32, -1 << 32} {
		refused(t, p, fuel, 0, nil, api.ErrArg)
		refused(t, p, fuel, 3, []string{"x"}, api.ErrArg)
		unseen(t, p, fuel, api.ErrArg)
		refused(t, parsed(t, "func main() { }"), fuel, 0, nil, api.ErrArg)
	}
	for _, fuel := range []int{0, 1, 2, api.MaxFuel - 1, api.MaxFuel} {
		want := run.Result{Steps: 1, Where: -1, Trace: rows(0)}
		if fuel == 0 {
			want = run.Result{Trap: api.Fuel}
		}
		got, e := run.Run(p, nil, fuel, 3, "x")
		hold(t, "fuel", got, e, want)
		if l, e := run.Visits(p, nil, fuel); e != api.OK || len(l) != want.Steps {
			t.Errorf("error %d, and %v of fuel %d", e, l, fuel)
		}
	}
}

// TestErrorsOfCriterion: P8.2, a tag and vars that may not be, ahead of the
// fuel, if the tag is not 0.
func TestErrorsOfCriterion(t *testing.T) {
	p := parsed(t, "func f(a) { return a; } func main() { var x, l[2]; @3 x = 1; if (x) { @1000000 x = 2; } }")
	for _, c := range []struct {
		tag  int
		vars []string
		want api.Errno
	}{
		{-1, nil, api.ErrTag}, {1, nil, api.ErrTag}, {2, []string{"none"}, api.ErrTag}, {low, []string{"x"}, api.ErrTag}, {high, nil, api.ErrTag}, {999999, nil, api.ErrTag}, {3 + 1<<32, nil, api.ErrTag},
		{3, []string{"a"}, api.ErrName}, {3, []string{"x", ""}, api.ErrName}, {3, []string{"f", "l"}, api.ErrName}, {3, []string{"X"}, api.ErrName}, {1000000, []string{"main"}, api.ErrName},
		{3, []string{"l"}, api.ErrType}, {3, []string{"x", "l", "a"}, api.ErrType}, {1000000, []string{"l", "l"}, api.ErrType},
	} {
		for _, fuel := range []int{0, 5, api.MaxFuel, -1, low, api.MaxFuel + 1} {
			refused(t, p, fuel, c.tag, c.vars, c.want)
		}
		refused(t, p, -1, 0, c.vars, api.ErrArg)
		got, e := run.Run(p, nil, 9, 0, c.vars...)
		hold(t, "no tag", got, e, run.Result{Steps: 3, Where: -1})
	}
	for _, tag := range []int{3, 1000000} {
		refused(t, p, -1, tag, []string{"x"}, api.ErrArg)
		got, e := run.Run(p, nil, 9, tag, "x")
		hold(t, "a tag", got, e, run.Result{Steps: 3, Where: -1, Trace: rows(map[int]int64{3: 0, 1000000: 1}[tag])})
	}
}
