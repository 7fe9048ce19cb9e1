package run_test

import (
	"math"
	"reflect"
	"strconv"
	"strings"
	"testing"

	"billhook/api"
	"billhook/check"
	"billhook/eval"
	"billhook/parse"
	"billhook/run"
	"billhook/tree"
)

const (
	low  = math.MinInt64
	high = math.MaxInt64
)

// parsed is a program that may run.
func parsed(t *testing.T, s string) tree.Prog {
	t.Helper()
	p, at, e := parse.Parse(s)
	if e != api.OK {
		t.Fatalf("%q: error %d at %d", s, e, at)
	}
	if e, where := check.Check(p); e != api.OK {
		t.Fatalf("%q: error %d of %d", s, e, where)
	}
	return p
}

// rows are those of one number each.
func rows(numbers ...int64) (l [][]int64) {
	for _, n := range numbers {
		l = append(l, []int64{n})
	}
	return l
}

// as has no nil list, so that empty ones are alike.
func as(r run.Result) run.Result {
	trace := [][]int64{}
	for _, row := range r.Trace {
		trace = append(trace, append([]int64{}, row...))
	}
	r.Trace = trace
	return r
}

func hold(t *testing.T, s string, got run.Result, e api.Errno, want run.Result) {
	t.Helper()
	if e != api.OK || !reflect.DeepEqual(as(got), as(want)) {
		t.Errorf("%s\ntells %v, error %d; asked is %v", s, got, e, want)
	}
}

// holdRun runs a program without an input, and with fuel for all; if it has a
// statement of Tag 1, the number x is traced there.
func holdRun(t *testing.T, s string, want run.Result) {
	t.Helper()
	tag := 0
	if strings.Contains(s, "@1 ") {
		tag = 1
	}
	got, e := run.Run(parsed(t, s), nil, api.MaxFuel, tag, "x")
	hold(t, s, got, e, want)
}

// holdMain holds what statements of main do, which has the numbers x and y and
// the array l of 3, and may call functions of 0, 1 and 2 params.
func holdMain(t *testing.T, body string, want run.Result) {
	t.Helper()
	const ahead = "func none() { var x; x = 5; } func one(x) { return x + 1; } func two(x, y) { x = x - y; return x; x = 7; } "
	holdRun(t, ahead+"func main() { var x, y, l[3]; "+body+" }", want)
}

// TestSteps: P8.1, each statement that comes on is a step, a While once more
// behind its statements.
func TestSteps(t *testing.T) {
	for body, steps := range map[string]int{
		"": 0, "x = 1;": 1, "x = 1; x = 2;": 2, "x = read();": 1, "l[0] = 1;": 1, "assert(1);": 1, "return 0;": 1,
		"if (0) { x = 1; x = 2; }": 1, "if (1) { x = 1; x = 2; }": 3, "if (0) { x = 1; x = 2; } else { x = 1; }": 2, "if (1) { } else { x = 1; } x = 1;": 2,
		"while (0) { x = 1; }": 1, "while (x < 3) { x = x + 1; }": 7, "while (x < 1) { x = x + 1; } x = 1;": 4, "while (1) { break; }": 2, "while (x < 2) { x = x + 1; continue; }": 7, "while (1) { return 0; }": 2,
		"x = none();": 2, "x = one(1);": 2, "x = two(1, 2);": 3, "while (x < 4) { x = one(x); }": 13,
	} {
		holdMain(t, body, run.Result{Steps: steps, Where: -1})
	}
}

// TestEmpty: P8.1, a main of nothing ends, whatever the fuel.
func TestEmpty(t *testing.T) {
	p := parsed(t, "func main() { }")
	for _, fuel := range []int{0, 1, api.MaxFuel} {
		got, e := run.Run(p, nil, fuel, 0)
		hold(t, "nothing", got, e, run.Result{Where: -1})
		if l, e := run.Visits(p, []int64{1}, fuel); len(l) != 0 || e != api.OK {
			t.Errorf("%v, error %d of nothing", l, e)
		}
	}
	got, e := run.Run(tree.Prog{Funcs: []tree.Func{{Name: "main"}}}, nil, 0, 0, "x", "")
	hold(t, "nothing", got, e, run.Result{Where: -1})
}

// TestFuel: P8.1 and P8.2, a statement that comes on with no fuel left ends
// the run, ahead of what it does; Where is it, in main, else main's Call.
func TestFuel(t *testing.T) {
	const s = `func f(n) { if (n) { n = f(n - 1); } return n; }
func main() { var x; x = 5; if (x) { while (x > 4) { @1 x = f(1); } } else { x = 9; } assert(1 / x); }`
	p := parsed(t, s)
	// Node 4 is the else's; the trap at node 5 comes with step 11.
	for fuel, c := range []struct {
		where int
		trace []int64
	}{{0, nil}, {1, nil}, {2, nil}, {3, nil}, {3, []int64{5}}, {3, []int64{5}}, {3, []int64{5}}, {3, []int64{5}}, {3, []int64{5}}, {2, []int64{5}}, {5, []int64{5}}} {
		got, e := run.Run(p, nil, fuel, 1, "x")
		hold(t, s, got, e, run.Result{Trap: api.Fuel, Steps: fuel, Where: c.where, Trace: rows(c.trace...)})
	}
	for _, fuel := range []int{11, 12, 100, api.MaxFuel - 1, api.MaxFuel} {
		got, e := run.Run(p, nil, fuel, 1, "x")
		hold(t, s, got, e, run.Result{Trap: api.Zero, Steps: 11, Where: 5, Trace: rows(5)})
	}
	for s, where := range map[string]int{
		"func main() { while (1) { } }": 0, "func main() { var x; x = 1; while (x) { x = x + 2; if (x == 0) { x = 1; } } }": 1,
		"func f() { while (1) { } } func main() { var x; x = f(); }": 0, "func f(n) { while (1) { n = n + 1; } } func main() { var x; x = 1; if (x) { x = f(x); } }": 2,
	} {
		holdRun(t, s, run.Result{Trap: api.Fuel, Steps: api.MaxFuel, Where: where})
	}
}

// TestAssign: P8.1, Name is what E is; a trap of it ends the run.
func TestAssign(t *testing.T) {
	for body, want := range map[string]run.Result{
		"x = 3; y = x * 4; x = y - x; @1 x = 0;":         {Steps: 4, Where: -1, Trace: rows(9)},
		"x = x + 1; x = x + 1; x = x << 3; @1 y = x;":    {Steps: 4, Where: -1, Trace: rows(16)},
		"x = 9223372036854775807; x = x + 1; @1 x = 0;":  {Steps: 3, Where: -1, Trace: rows(low)},
		"x = 4; @1 x = 1 / 0; x = 5;":                    {Trap: api.Zero, Steps: 2, Where: 1, Trace: rows(4)},
		"x = 4; x = l[3];":                               {Trap: api.Bounds, Steps: 2, Where: 1},
		"y = 64; x = 1 << y; @1 x = 2;":                  {Trap: api.Shift, Steps: 2, Where: 1},
		"x = 0 && 1 / 0; @1 x = 1;":                      {Steps: 2, Where: -1, Trace: rows(0)},
		"l[2] = 7; l[l[1]] = 2; x = l[l[0]]; @1 x = 0;":  {Steps: 4, Where: -1, Trace: rows(7)},
		"l[0] = 1; x = l[1]; @1 l[1] = 9; x = l[1] / x;": {Trap: api.Zero, Steps: 4, Where: 3, Trace: rows(0)},
	} {
		holdMain(t, body, want)
	}
}

// TestStore: P8.1, the first E, then the second, then the element.
func TestStore(t *testing.T) {
	for body, want := range map[string]run.Result{
		"l[0] = 4; l[1] = 5; l[2] = 6; x = l[0] * 100 + l[1] * 10 + l[2]; @1 x = 0;": {Steps: 5, Where: -1, Trace: rows(456)},
		"l[1] = 4; l[1] = l[1] + 1; x = l[1]; @1 x = 0;":                             {Steps: 4, Where: -1, Trace: rows(5)},
		"l[3] = 1; @1 x = 1;":                  {Trap: api.Bounds, Steps: 1},
		"x = 2; l[-1] = 1;":                    {Trap: api.Bounds, Steps: 2, Where: 1},
		"l[4294967296] = 1;":                   {Trap: api.Bounds, Steps: 1},
		"l[1 / 0] = 1 << 64;":                  {Trap: api.Zero, Steps: 1},
		"l[1 << 64] = 1 / 0;":                  {Trap: api.Shift, Steps: 1},
		"l[3] = 1 / 0;":                        {Trap: api.Zero, Steps: 1},
		"l[-9] = 1 << 64;":                     {Trap: api.Shift, Steps: 1},
		"l[l[3]] = 1 / 0;":                     {Trap: api.Bounds, Steps: 1},
		"l[0] = l[-1];":                        {Trap: api.Bounds, Steps: 1},
		"l[l[0] + 2] = 1; x = l[2]; @1 x = 0;": {Steps: 3, Where: -1, Trace: rows(1)},
	} {
		holdMain(t, body, want)
	}
}

// TestRead: P8.1, the next number of the input, whichever frame takes it; 0, if
// there is none left.
func TestRead(t *testing.T) {
	const s = "func f() { var a, b; a = read(); b = read(); return a * 10 + b; } func main() { var x, y, z; x = read(); y = f(); z = read(); @1 z = z; }"
	p := parsed(t, s)
	for _, c := range []struct {
		in   []int64
		want []int64
	}{
		{[]int64{1, 2, 3, 4}, []int64{1, 23, 4}}, {[]int64{1, 2, 3, 4, 5, 6}, []int64{1, 23, 4}}, {[]int64{-7, 2, 3}, []int64{-7, 23, 0}}, {[]int64{high, 2}, []int64{high, 20, 0}},
		{[]int64{low}, []int64{low, 0, 0}}, {nil, []int64{0, 0, 0}}, {[]int64{}, []int64{0, 0, 0}}, {[]int64{0, 0, 0, low}, []int64{0, 0, low}},
	} {
		got, e := run.Run(p, c.in, 100, 1, "x", "y", "z")
		hold(t, s, got, e, run.Result{Steps: 7, Where: -1, Trace: [][]int64{c.want}})
	}
	const loop = "func main() { var x, n; while (n < 5) { @1 x = read(); n = n + 1; } }"
	got, e := run.Run(parsed(t, loop), []int64{3, 1, 2}, 100, 1, "x")
	hold(t, loop, got, e, run.Result{Steps: 16, Where: -1, Trace: rows(0, 3, 1, 2, 0)})
}

// TestIf: P8.1, Body, if E is not 0, else Else.
func TestIf(t *testing.T) {
	for test, truth := range map[string]bool{
		"0": false, "1": true, "-1": true, "2": true, "4294967296": true, "-9223372036854775808": true, "9223372036854775807": true, "x": false, "!x": true, "x == 1": false, "l[2]": false, "1 << 63 << 1": false,
	} {
		x := int64(3)
		if truth {
			x = 2
		}
		holdMain(t, "if ("+test+") { x = 2; } else { x = 3; } @1 y = 1;", run.Result{Steps: 3, Where: -1, Trace: rows(x)})
		holdMain(t, "x = "+test+"; y = 4; if (x) { y = y + 1; y = y * 2; } else { y = y - 1; y = y * 3; } x = y; @1 y = 1;", run.Result{Steps: 7, Where: -1, Trace: rows(map[bool]int64{true: 10, false: 9}[truth])})
	}
	holdMain(t, "x = 1; if (x / 0) { x = 2; } else { x = 3; } @1 x = 4;", run.Result{Trap: api.Zero, Steps: 2, Where: 1})
	holdMain(t, "x = 1; if (x) { x = 0; } @1 x = 4;", run.Result{Steps: 4, Where: -1, Trace: rows(0)})
	holdMain(t, "if (x) { } else { if (x) { } else { x = 6; } x = x + 1; } @1 x = 4;", run.Result{Steps: 5, Where: -1, Trace: rows(7)})
}

// TestWhile: P8.1, E is reckoned each time that the While comes on.
func TestWhile(t *testing.T) {
	for body, want := range map[string]run.Result{
		"while (x < 3) { x = x + 1; } @1 x = 0;":                                        {Steps: 8, Where: -1, Trace: rows(3)},
		"@1 while (x < 3) { x = x + 1; }":                                               {Steps: 7, Where: -1, Trace: rows(0, 1, 2, 3)},
		"x = 4; while (x) { @1 x = x - 1; }":                                            {Steps: 10, Where: -1, Trace: rows(4, 3, 2, 1)},
		"x = -2; while (x) { @1 x = x + 1; }":                                           {Steps: 6, Where: -1, Trace: rows(-2, -1)},
		"while (0) { @1 x = 1; }":                                                       {Steps: 1, Where: -1},
		"while (1 / x) { }":                                                             {Trap: api.Zero, Steps: 1},
		"x = 2; while (6 / x) { @1 x = x - 1; }":                                        {Trap: api.Zero, Steps: 6, Where: 1, Trace: rows(2, 1)},
		"while (x < 3) { x = x + 1; y = 0; while (y < x) { @1 y = y + 1; } }":           {Steps: 25, Where: -1, Trace: rows(1, 2, 2, 3, 3, 3)},
		"while (l[x] == 0) { @1 l[x] = x; x = x + 1; }":                                 {Trap: api.Bounds, Steps: 10, Where: 0, Trace: rows(0, 1, 2)},
		"while (x < 9) { if (x < 4) { x = x + 3; } else { @1 x = x + 2; } y = y + 1; }": {Steps: 17, Where: -1, Trace: rows(6, 8)},
	} {
		holdMain(t, body, want)
	}
}

// TestJumps: P8.1, a Break goes on behind the innermost While, a Continue with
// it; neither what stands behind it nor an outer While is gone on with.
func TestJumps(t *testing.T) {
	for body, want := range map[string]run.Result{
		"while (1) { break; x = 1; } @1 x = x;":                                                                            {Steps: 3, Where: -1, Trace: rows(0)},
		"while (x < 3) { x = x + 1; continue; x = 9; } @1 x = x;":                                                          {Steps: 11, Where: -1, Trace: rows(3)},
		"while (x < 9) { x = x + 1; if (x == 4) { break; x = 7; } else { y = x; } } @1 x = y;":                             {Steps: 17, Where: -1, Trace: rows(4)},
		"while (x < 3) { x = x + 1; while (1) { y = y + 1; break; } @1 y = y; }":                                           {Steps: 19, Where: -1, Trace: rows(1, 2, 3)},
		"while (x < 2) { x = x + 1; y = 0; while (y < 2) { y = y + 1; if (1) { if (1) { continue; } } x = 9; } }":          {Steps: 29, Where: -1},
		"while (x < 5) { x = x + 1; if (x & 1) { continue; } @1 y = 1; }":                                                  {Steps: 21, Where: -1, Trace: rows(2, 4)},
		"while (1) { while (1) { x = x + 1; break; } if (x > 2) { break; } } @1 x = 0;":                                    {Steps: 17, Where: -1, Trace: rows(3)},
		"while (1) { if (0) { } else { break; } } while (x < 1) { x = 1; if (0) { } else { continue; } x = 0; } @1 x = 0;": {Steps: 9, Where: -1, Trace: rows(1)},
	} {
		holdMain(t, body, want)
	}
}

// TestReturn: P8.1, a Return ends the frame, wherever it stands; that of main
// the run, with no trap, whatever it is of.
func TestReturn(t *testing.T) {
	for body, want := range map[string]run.Result{
		"x = 1; return 7; x = 1 / 0;":                                 {Steps: 2, Where: -1},
		"return 0; assert(0);":                                        {Steps: 1, Where: -1},
		"if (1) { return -1; } assert(0);":                            {Steps: 2, Where: -1},
		"while (1) { while (1) { if (1) { return x; } } } assert(0);": {Steps: 4, Where: -1},
		"if (x) { } else { return 1 / x; } x = 1;":                    {Trap: api.Zero, Steps: 2, Where: 1},
		"return l[3];": {Trap: api.Bounds, Steps: 1},
		"@1 return 5;": {Steps: 1, Where: -1, Trace: rows(0)},
	} {
		holdMain(t, body, want)
	}
}

// TestAssert: P8.1, False, if E is 0; else nothing is done.
func TestAssert(t *testing.T) {
	for body, want := range map[string]run.Result{
		"assert(0);": {Trap: api.False, Steps: 1}, "assert(1);": {Steps: 1, Where: -1}, "assert(-1); x = 3; assert(x);": {Steps: 3, Where: -1}, "assert(4294967296);": {Steps: 1, Where: -1},
		"x = 2; @1 assert(x == 3); x = 4;": {Trap: api.False, Steps: 2, Where: 1, Trace: rows(2)}, "x = 1; assert(x / 0);": {Trap: api.Zero, Steps: 2, Where: 1}, "assert(1 << 64 && 0);": {Trap: api.Shift, Steps: 1},
		"while (x < 4) { assert(x < 2); x = x + 1; }": {Trap: api.False, Steps: 8, Where: 1},
	} {
		holdMain(t, body, want)
	}
}

// TestCall: P8.1, a frame of its own, args, and what Name is set to.
func TestCall(t *testing.T) {
	for body, want := range map[string]run.Result{
		"x = 3; y = one(x); x = x * 10 + y; @1 x = 0;":            {Steps: 5, Where: -1, Trace: rows(34)},
		"x = 9; x = none(); @1 x = 0;":                            {Steps: 4, Where: -1, Trace: rows(0)},
		"x = 9; y = 2; x = two(y, x); @1 x = 0;":                  {Steps: 6, Where: -1, Trace: rows(-7)},
		"y = 1; x = two(y * 10, y - 1); @1 x = 0;":                {Steps: 5, Where: -1, Trace: rows(10)},
		"x = 4; @1 x = one(1 / 0);":                               {Trap: api.Zero, Steps: 2, Where: 1, Trace: rows(4)},
		"x = two(1 / 0, 1 << 64);":                                {Trap: api.Zero, Steps: 1},
		"x = two(1 << 64, 1 / 0);":                                {Trap: api.Shift, Steps: 1},
		"x = two(1, l[3]);":                                       {Trap: api.Bounds, Steps: 1},
		"x = 7; x = one(x); x = one(x); @1 x = one(x); @2 x = 0;": {Steps: 8, Where: -1, Trace: rows(9)},
		"x = 5; if (1) { y = one(x); } else { } @1 y = one(y); x = y; assert(x == 7 && l[0] == 0);": {Steps: 8, Where: -1, Trace: rows(5)},
	} {
		holdMain(t, body, want)
	}
	for s, want := range map[string]run.Result{
		// Names are the frame's own, and are 0 again at each call.
		"func f(x) { var y, l[2]; assert(y == 0 && l[1] == 0); y = x; l[1] = x; x = 100; return y + l[1]; } func main() { var x, y, l[2]; y = 8; l[1] = 9; x = f(1); x = f(x); x = x * 100 + y * 10 + l[1]; @1 x = 0; }": {Steps: 16, Where: -1, Trace: rows(489)},
		"func fac(n) { var r; if (n < 2) { return 1; } r = fac(n - 1); return n * r; } func main() { var x; x = fac(10); @1 x = 0; }":                                                                                    {Steps: 31, Where: -1, Trace: rows(3628800)},
		"func fib(n) { var a, b; if (n < 2) { return n; } a = fib(n - 1); b = fib(n - 2); return a + b; } func main() { var x; x = fib(10); @1 x = 0; }":                                                                 {Steps: 532, Where: -1, Trace: rows(55)},
		"func odd(n) { if (n == 0) { return 0; } n = even(n - 1); return n; } func even(n) { if (n == 0) { return 1; } n = odd(n - 1); return n; } func main() { var x; x = odd(7); @1 x = 0; }":                         {Steps: 25, Where: -1, Trace: rows(1)},
		"func f() { while (1) { while (1) { return 6; } } } func main() { var x; while (x < 7) { x = f(); x = x + 1; } @1 x = x; }":                                                                                      {Steps: 8, Where: -1, Trace: rows(7)},
		"func f() { if (1) { return 3; } else { } return 4; } func main() { var x; x = f(); @1 x = 0; }":                                                                                                                 {Steps: 4, Where: -1, Trace: rows(3)},
		"func f(a) { a = 1 / a; } func main() { var x; x = 2; if (x) { x = f(1); x = f(x); x = 3; } }":                                                                                                                   {Trap: api.Zero, Steps: 6, Where: 3},
		"func g(a) { assert(a); return a; } func f(a) { a = g(a); return a; } func main() { var x; x = 2; while (1) { @1 x = x - 1; x = f(x); } }":                                                                       {Trap: api.False, Steps: 13, Where: 3, Trace: rows(2, 1)},
	} {
		holdRun(t, s, want)
	}
}

// TestDeepCalls: P8.1, MaxFrames frames may be, main's among them; E is
// reckoned ahead of that. What has ended is no frame any more.
func TestDeepCalls(t *testing.T) {
	const down = "func f(n) { if (n > 1) { n = f(n - 1); } return n; } func main() { var x, k; while (k < 3) { @1 x = f(COUNT); k = k + 1; } }"
	// Of f so many are open at most, beside main.
	for n := range 2 * api.MaxFrames {
		s := strings.ReplaceAll(down, "COUNT", strconv.Itoa(n+1))
		want := run.Result{Steps: 1 + 3*(3*(n+1)+2), Where: -1, Trace: rows(0, 1, 1)}
		if n+2 > api.MaxFrames {
			want = run.Result{Trap: api.Deep, Steps: 2 + 2*(api.MaxFrames-1), Where: 1, Trace: rows(0)}
		}
		holdRun(t, s, want)
	}
	holdRun(t, "func f() { var x; x = f(); } func main() { var x; x = 1; @1 x = f(); x = 2; }", run.Result{Trap: api.Deep, Steps: 1 + api.MaxFrames, Where: 1, Trace: rows(1)})
	for bad, trap := range map[string]api.Trap{"1 / (40 - n)": api.Zero, "1 << n + 24": api.Shift, "1 / (41 - n)": api.Deep} {
		holdRun(t, "func f(n, a) { n = f(n + 1, "+bad+"); } func main() { var x; x = f(2, 0); }", run.Result{Trap: trap, Steps: api.MaxFrames})
	}
	p := parsed(t, "func f() { var x; x = f(); } func main() { var x; x = f(); }")
	got, e := run.Run(p, nil, api.MaxFrames-1, 0)
	hold(t, "too deep", got, e, run.Result{Trap: api.Fuel, Steps: api.MaxFrames - 1})
	got, e = run.Run(p, nil, api.MaxFrames, 0)
	hold(t, "too deep", got, e, run.Result{Trap: api.Deep, Steps: api.MaxFrames})
}

// numbered has each kind of statement, and all that is run has a Tag.
const numbered = `func f(a) { if (a) { } else { } return a; }
func main() { var x, y, l[2];
	@1 x = read();
	@2 if (x) { @3 y = 1; @4 while (y < 3) { @5 if (y == 1) { @6 y = f(2); @7 continue; } else { @8 y = 3; } @9 l[0] = y; }
	} else { @10 y = 5; @11 if (y) { @12 y = 6; } @13 y = f(y); }
	@14 while (1) { @15 break; }
	@16 assert(y); @17 return y;
}`

// TestNodes: P8.2, how nodes are numbered: as they stand, one that stands in
// another one behind that, the Body's ahead of the Else's.
func TestNodes(t *testing.T) {
	p := parsed(t, numbered)
	for in, want := range map[int64][]int{
		1: {0, 1, 2, 3, 4, 5, 6, 3, 4, 7, 8, 3, 13, 14, 15, 16}, 0: {0, 1, 9, 10, 11, 12, 13, 14, 15, 16},
	} {
		l, e := run.Visits(p, []int64{in}, api.MaxFuel)
		var got []int
		for _, v := range l {
			got = append(got, v.Node)
		}
		if e != api.OK || !reflect.DeepEqual(got, want) {
			t.Errorf("nodes %v, error %d, not %v", got, e, want)
		}
		for tag := 1; tag <= 17; tag++ {
			r, e := run.Run(p, []int64{in}, api.MaxFuel, tag)
			many := 0
			for _, node := range want {
				if node == tag-1 {
					many++
				}
			}
			if e != api.OK || len(r.Trace) != many {
				t.Errorf("%d rows, error %d of tag %d, not %d", len(r.Trace), e, tag, many)
			}
		}
	}
}

// TestTrace: P8.2, the numbers of vars, in their order, each time that main's
// statement came on, ahead of what it does.
func TestTrace(t *testing.T) {
	const s = "func f(x, y) { x = x * y; return x; } func main() { var x, y, z; z = 1; while (y < 3) { y = y + 1; @7 x = f(y, x + 1); } z = read(); }"
	p := parsed(t, s)
	for _, c := range []struct {
		vars []string
		want [][]int64
	}{
		{[]string{"x"}, rows(0, 1, 4)}, {[]string{"y"}, rows(1, 2, 3)}, {[]string{"x", "y", "z"}, [][]int64{{0, 1, 1}, {1, 2, 1}, {4, 3, 1}}}, {[]string{"z", "x"}, [][]int64{{1, 0}, {1, 1}, {1, 4}}},
		{[]string{"y", "y", "x", "y"}, [][]int64{{1, 1, 0, 1}, {2, 2, 1, 2}, {3, 3, 4, 3}}}, {nil, [][]int64{{}, {}, {}}}, {[]string{}, [][]int64{{}, {}, {}}},
	} {
		got, e := run.Run(p, nil, 100, 7, c.vars...)
		hold(t, s, got, e, run.Result{Steps: 18, Where: -1, Trace: c.want})
	}
	// No tag is asked for: nothing is traced, and vars may be any.
	for _, vars := range [][]string{nil, {"x"}, {"none"}, {"", "f"}} {
		got, e := run.Run(p, nil, 100, 0, vars...)
		hold(t, s, got, e, run.Result{Steps: 18, Where: -1})
	}
	// What comes on with no step is not traced; what traps is.
	for fuel, trace := range map[int][][]int64{0: nil, 2: nil, 3: nil, 4: rows(0), 7: rows(0), 8: rows(0), 9: rows(0, 1)} {
		got, _ := run.Run(p, nil, fuel, 7, "x")
		if !run.Same(run.Result{Trace: got.Trace}, run.Result{Trace: trace}) {
			t.Errorf("with fuel %d the trace is %v, not %v", fuel, got.Trace, trace)
		}
	}
	holdMain(t, "x = 3; while (1) { x = x - 1; @1 y = 6 / x; }", run.Result{Trap: api.Zero, Steps: 10, Where: 3, Trace: rows(2, 1, 0)})
}

// TestVisits: P8.3, each time that a node of main came on, and what main's
// names had, ahead of what it does.
func TestVisits(t *testing.T) {
	const s = "func f(x) { x = x + 1; return x; } func main() { var x, l[2], y; x = read(); while (x < 2) { l[x] = x + 5; x = f(x); } y = l[x]; y = 1; }"
	want := []run.Visit{}
	for _, c := range []struct {
		node         int
		x, l0, l1, y int64
	}{{0, 0, 0, 0, 0}, {1, 0, 0, 0, 0}, {2, 0, 0, 0, 0}, {3, 0, 5, 0, 0}, {1, 1, 5, 0, 0}, {2, 1, 5, 0, 0}, {3, 1, 5, 6, 0}, {1, 2, 5, 6, 0}, {4, 2, 5, 6, 0}} {
		want = append(want, run.Visit{Node: c.node, Cells: []eval.Cell{{Name: "x", V: []int64{c.x}}, {Name: "l", Array: true, V: []int64{c.l0, c.l1}}, {Name: "y", V: []int64{c.y}}}})
	}
	p := parsed(t, s)
	// Steps of f are none of main's: the first f has steps 5 and 6.
	for fuel, many := range []int{0, 1, 2, 3, 4, 4, 4, 5, 6, 7, 7, 7, 8, 9, 9, 9} {
		got, e := run.Visits(p, nil, fuel)
		if e != api.OK || len(got) != many || many > 0 && !reflect.DeepEqual(got, want[:many]) {
			t.Errorf("with fuel %d error %d, and\n%v, not\n%v", fuel, e, got, want[:many])
		}
	}
	got, e := run.Visits(p, []int64{7, 1}, 100)
	if e != api.OK || len(got) != 3 || got[1].Node != 1 || got[1].Cells[0].V[0] != 7 || got[2].Node != 4 {
		t.Errorf("error %d, and %v", e, got)
	}
	if got, e := run.Visits(parsed(t, "func f() { while (1) { } } func main() { var x; x = f(); x = 1; }"), nil, api.MaxFuel); e != api.OK || len(got) != 1 {
		t.Errorf("error %d, and %v", e, got)
	}
	if got, e := run.Visits(parsed(t, "func main() { while (1) { } }"), nil, api.MaxFuel); e != api.OK || len(got) != api.MaxFuel || got[api.MaxFuel-1].Node != 0 {
		t.Errorf("error %d, and %d visits", e, len(got))
	}
}

// TestSame: P8.3, all fields, one by one.
func TestSame(t *testing.T) {
	base := func() run.Result {
		return run.Result{Trap: api.Zero, Steps: 4, Where: 2, Trace: [][]int64{{1, 2}, {}, {3}}}
	}
	for i, change := range []func(r *run.Result){
		func(r *run.Result) { r.Trap = api.Shift }, func(r *run.Result) { r.Trap = -9 }, func(r *run.Result) { r.Steps = low }, func(r *run.Result) { r.Steps++ }, func(r *run.Result) { r.Where = -1 }, func(r *run.Result) { r.Where = high },
		func(r *run.Result) { r.Trace = nil }, func(r *run.Result) { r.Trace = r.Trace[:2] }, func(r *run.Result) { r.Trace = append(r.Trace, nil) }, func(r *run.Result) { r.Trace[0][1] = 3 }, func(r *run.Result) { r.Trace[2][0] = low },
		func(r *run.Result) { r.Trace[0] = r.Trace[0][:1] }, func(r *run.Result) { r.Trace[1] = []int64{0} }, func(r *run.Result) { r.Trace[0], r.Trace[2] = r.Trace[2], r.Trace[0] }, func(r *run.Result) { r.Trace = [][]int64{{1, 2, 3}} },
	} {
		a, b := base(), base()
		change(&b)
		if run.Same(a, b) || run.Same(b, a) || !run.Same(b, b) {
			t.Errorf("change %d is not told", i)
		}
	}
	empty := base()
	empty.Trace[1] = nil
	if !run.Same(base(), base()) || !run.Same(base(), empty) || !run.Same(empty, base()) || !run.Same(run.Result{}, run.Result{Trace: [][]int64{}}) || !run.Same(run.Result{}, run.Result{}) {
		t.Error("the same is told to be another")
	}
}

// TestBegins: P8.3, whether b begins with a.
func TestBegins(t *testing.T) {
	l := [][]int64{{1, 2}, {}, {3}, {low, high, 0}, {3}}
	for i := range len(l) + 1 {
		for k := range len(l) + 1 {
			if got := run.Begins(l[:i], l[:k]); got != (i <= k) {
				t.Errorf("the first %d begin with the first %d: %t", k, i, got)
			}
		}
		if i > 0 && run.Begins(l[i-1:i], l) != (i == 1) || !run.Begins(nil, l[:i]) || !run.Begins([][]int64{}, l[:i]) {
			t.Errorf("what begins at %d", i)
		}
	}
	for _, a := range [][][]int64{{{1}}, {{1, 2, 0}}, {{1, 3}}, {{2, 1}}, {{}}, {nil}, {{1, 2}, {0}}, {{1, 2}, {}, {3, 3}}, {{1, 2}, {3}}, {{1, 2}, {}, {}}} {
		if run.Begins(a, l) {
			t.Errorf("%v begins with %v", l, a)
		}
	}
	if !run.Begins(nil, nil) || !run.Begins(nil, [][]int64{}) || !run.Begins([][]int64{{1, 2}, nil}, l) || !run.Begins([][]int64{nil}, [][]int64{{}, {1}}) || run.Begins([][]int64{nil}, nil) || run.Begins([][]int64{{}}, [][]int64{}) {
		t.Error("what is empty")
	}
}
