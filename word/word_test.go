package word_test

import (
	"math"
	"math/big"
	"math/bits"
	"slices"
	"strconv"
	"strings"
	"sync"
	"testing"

	"billhook/api"
	"billhook/word"
)

const (
	low  = math.MinInt64
	high = math.MaxInt64
)

// allOps is written out once more, so that the tests do not hang on Ops.
var allOps = []struct {
	sign  string
	level int
}{
	{"||", 1}, {"&&", 2}, {"|", 3}, {"^", 4}, {"&", 5}, {"==", 6}, {"!=", 6},
	{"<", 7}, {"<=", 7}, {">", 7}, {">=", 7}, {"<<", 8}, {">>", 8},
	{"+", 9}, {"-", 9}, {"*", 10}, {"/", 10}, {"%", 10},
}

// wrongOps are texts that are no operation of two numbers.
var wrongOps = []string{
	"", " ", "!", "~", "=", "===", "<>", "=<", "=>", "<<<", ">>>", "<<=", "&&&", "|||", "**", "//", "++", "--",
	" +", "+ ", "+\x00", "\x00", "\xff", "plus", "and", "１", "×", "÷", "−", "≤", "(", ")", "0", strings.Repeat("+", 100000),
}

// edges are numbers at which an operation may go over: both ends, powers of 2
// and their neighbours, and the ends of the shifts.
func edges() []int64 {
	l := []int64{low, low + 1, low + 2, high, high - 1, high - 2, -10, -7, -3, -2, -1, 0, 1, 2, 3, 5, 7, 10, 62, 63, 64, 65, -63, -64, -65, 1000003, -1000003}
	for _, k := range []int{15, 31, 32, 33, 47, 62} {
		p := int64(1) << k
		l = append(l, p, p-1, p+1, -p, -p-1, -p+1)
	}
	return append(l, 0x5555555555555555, -0x5555555555555555, 3037000499, 3037000500, -3037000500)
}

// cut is the low 64 bits of n, with a sign.
func cut(n *big.Int) int64 {
	m := new(big.Int).Mod(n, new(big.Int).Lsh(big.NewInt(1), 64))
	return int64(m.Uint64())
}

func bitwise(a, b int64, f func(x, y bool) bool) int64 {
	told := uint64(0)
	for k := range 64 {
		if f(uint64(a)>>k&1 == 1, uint64(b)>>k&1 == 1) {
			told |= 1 << k
		}
	}
	return int64(told)
}

func truth(holds bool) int64 {
	if holds {
		return 1
	}
	return 0
}

// reckon says by big numbers what P1.2 asks.
func reckon(op string, a, b int64) (int64, api.Trap) {
	x, y, z := big.NewInt(a), big.NewInt(b), new(big.Int)
	switch op {
	case "+":
		return cut(z.Add(x, y)), api.None
	case "-":
		return cut(z.Sub(x, y)), api.None
	case "*":
		return cut(z.Mul(x, y)), api.None
	case "/", "%":
		if b == 0 {
			return 0, api.Zero
		}
		if op == "/" {
			return cut(z.Quo(x, y)), api.None
		}
		return cut(z.Rem(x, y)), api.None
	case "<<", ">>":
		if b < 0 || b > 63 {
			return 0, api.Shift
		}
		if op == "<<" {
			return cut(z.Lsh(x, uint(b))), api.None
		}
		return cut(z.Rsh(x, uint(b))), api.None
	case "&":
		return bitwise(a, b, func(x, y bool) bool { return x && y }), api.None
	case "|":
		return bitwise(a, b, func(x, y bool) bool { return x || y }), api.None
	case "^":
		return bitwise(a, b, func(x, y bool) bool { return x != y }), api.None
	case "==":
		return truth(x.Cmp(y) == 0), api.None
	case "!=":
		return truth(x.Cmp(y) != 0), api.None
	case "<":
		return truth(x.Cmp(y) < 0), api.None
	case "<=":
		return truth(x.Cmp(y) <= 0), api.None
	case ">":
		return truth(x.Cmp(y) > 0), api.None
	case ">=":
		return truth(x.Cmp(y) >= 0), api.None
	case "&&":
		return truth(x.Sign() != 0 && y.Sign() != 0), api.None
	case "||":
		return truth(x.Sign() != 0 || y.Sign() != 0), api.None
	}
	return 0, api.None
}

// binary is Binary of what may not trap.
func binary(t *testing.T, op string, a, b int64) int64 {
	t.Helper()
	n, trap := word.Binary(op, a, b)
	if trap != api.None {
		t.Errorf("%d %s %d: trap %d", a, op, b, trap)
	}
	return n
}

// TestOps: P1.1, the operations and their order.
func TestOps(t *testing.T) {
	got := word.Ops()
	if len(got) != len(allOps) {
		t.Fatalf("%d ops: %q", len(got), got)
	}
	for k, o := range allOps {
		if got[k] != o.sign {
			t.Errorf("op %d is %q, not %q", k, got[k], o.sign)
		}
	}
}

// TestLevel: P1.1, how tightly each binds, and 0 of any other text.
func TestLevel(t *testing.T) {
	for _, o := range allOps {
		if got := word.Level(o.sign); got != o.level {
			t.Errorf("Level(%q) is %d, not %d", o.sign, got, o.level)
		}
	}
	for _, op := range wrongOps {
		if got := word.Level(op); got != 0 {
			t.Errorf("Level(%.20q) is %d", op, got)
		}
	}
}

// TestBinaryByHand: P1.2, answers written out, edges first.
func TestBinaryByHand(t *testing.T) {
	for _, c := range []struct {
		a    int64
		op   string
		b    int64
		want int64
		trap api.Trap
	}{
		{-7, "/", 2, -3, api.None}, {7, "/", -2, -3, api.None}, {-7, "/", -2, 3, api.None}, {1, "/", 2, 0, api.None}, {-1, "/", 2, 0, api.None},
		{low, "/", -1, low, api.None}, {low, "/", 1, low, api.None}, {low, "/", low, 1, api.None}, {high, "/", low, 0, api.None}, {low, "/", high, -1, api.None},
		{-7, "%", 2, -1, api.None}, {7, "%", -2, 1, api.None}, {-7, "%", -2, -1, api.None}, {low, "%", -1, 0, api.None}, {low, "%", high, -1, api.None},
		{0, "/", 0, 0, api.Zero}, {low, "/", 0, 0, api.Zero}, {5, "%", 0, 0, api.Zero}, {0, "%", 0, 0, api.Zero},
		{high, "+", 1, low, api.None}, {low, "+", low, 0, api.None}, {low, "-", 1, high, api.None}, {0, "-", low, low, api.None},
		{low, "*", -1, low, api.None}, {high, "*", high, 1, api.None}, {1 << 32, "*", 1 << 32, 0, api.None}, {6, "*", -7, -42, api.None},
		{-1, "<<", 63, low, api.None}, {-1, "<<", 0, -1, api.None}, {2, "<<", 63, 0, api.None}, {high, "<<", 1, -2, api.None},
		{0, "<<", 64, 0, api.Shift}, {1, "<<", -1, 0, api.Shift}, {1, "<<", low, 0, api.Shift}, {1, "<<", high, 0, api.Shift}, {1, "<<", 1 << 32, 0, api.Shift},
		{-1, ">>", 63, -1, api.None}, {high, ">>", 62, 1, api.None}, {high, ">>", 63, 0, api.None}, {-7, ">>", 1, -4, api.None}, {low, ">>", 0, low, api.None},
		{1, ">>", 64, 0, api.Shift}, {1, ">>", -1, 0, api.Shift}, {0, ">>", low, 0, api.Shift}, {-9, ">>", 1 << 32, 0, api.Shift},
		{-1, "&", 6, 6, api.None}, {low, "|", high, -1, api.None}, {-1, "^", high, low, api.None},
		{low, "<", high, 1, api.None}, {high, "<", low, 0, api.None}, {high, ">", low, 1, api.None}, {low, ">=", low, 1, api.None}, {low, "<=", low, 1, api.None},
		{-1, "<", 0, 1, api.None}, {low, "==", low, 1, api.None}, {low, "==", high, 0, api.None}, {0, "!=", 1 << 32, 1, api.None}, {3, "!=", 3, 0, api.None},
		{2, "&&", 4, 1, api.None}, {low, "&&", 1 << 32, 1, api.None}, {0, "&&", 4, 0, api.None}, {4, "&&", 0, 0, api.None}, {0, "&&", 0, 0, api.None},
		{2, "||", 0, 1, api.None}, {0, "||", low, 1, api.None}, {3, "||", 4, 1, api.None}, {0, "||", 0, 0, api.None},
	} {
		if got, trap := word.Binary(c.op, c.a, c.b); got != c.want || trap != c.trap {
			t.Errorf("%d %s %d: %d, trap %d; asked is %d, trap %d", c.a, c.op, c.b, got, trap, c.want, c.trap)
		}
	}
}

// TestBinaryByBigNumbers: P1.2, each operation of each two edges.
func TestBinaryByBigNumbers(t *testing.T) {
	for _, o := range allOps {
		for _, a := range edges() {
			for _, b := range edges() {
				want, wantTrap := reckon(o.sign, a, b)
				if got, trap := word.Binary(o.sign, a, b); got != want || trap != wantTrap {
					t.Errorf("%d %s %d: %d, trap %d; asked is %d, trap %d", a, o.sign, b, got, trap, want, wantTrap)
				}
			}
		}
	}
}

// TestShiftsAll: P1.2, each width that may be, and those just beyond.
func TestShiftsAll(t *testing.T) {
	for _, op := range []string{"<<", ">>"} {
		for b := int64(-3); b <= 67; b++ {
			for _, a := range []int64{1, -1, low, high, 0, 0x0123456789abcdef} {
				want, wantTrap := reckon(op, a, b)
				if got, trap := word.Binary(op, a, b); got != want || trap != wantTrap {
					t.Errorf("%d %s %d: %d, trap %d; asked is %d, trap %d", a, op, b, got, trap, want, wantTrap)
				}
			}
		}
	}
}

// TestBinaryOfNoOp: P1.2, any other op is 0, and no trap, whatever it is of.
func TestBinaryOfNoOp(t *testing.T) {
	for _, op := range wrongOps {
		for _, a := range []int64{low, -1, 0, 1, high} {
			for _, b := range []int64{low, -1, 0, 1, 64, high} {
				if got, trap := word.Binary(op, a, b); got != 0 || trap != api.None {
					t.Errorf("%d %.20q %d: %d, trap %d", a, op, b, got, trap)
				}
			}
		}
	}
}

// TestUnary: P1.3, the three operations of one number.
func TestUnary(t *testing.T) {
	for _, a := range edges() {
		for _, c := range []struct {
			op   string
			want int64
		}{
			{"-", cut(new(big.Int).Neg(big.NewInt(a)))},
			{"~", bitwise(a, 0, func(x, _ bool) bool { return !x })},
			{"!", truth(a == 0)},
		} {
			if got, ok := word.Unary(c.op, a); got != c.want || !ok {
				t.Errorf("%s %d: %d, %t; asked is %d", c.op, a, got, ok, c.want)
			}
		}
	}
	for _, c := range []struct {
		op      string
		a, want int64
	}{{"-", low, low}, {"-", 0, 0}, {"-", high, low + 1}, {"~", 0, -1}, {"~", low, high}, {"!", 0, 1}, {"!", 1, 0}, {"!", low, 0}, {"!", 1 << 32, 0}} {
		if got, ok := word.Unary(c.op, c.a); got != c.want || !ok {
			t.Errorf("%s %d: %d, %t; asked is %d", c.op, c.a, got, ok, c.want)
		}
	}
}

// TestUnaryOfNoOp: P1.3, any other op is 0, and false.
func TestUnaryOfNoOp(t *testing.T) {
	unary := []string{"-", "~", "!"}
	var texts []string
	for _, o := range allOps {
		texts = append(texts, o.sign)
	}
	for _, op := range append(texts, append(wrongOps, "--", "!!", "~~", "- ", " -", "-1")...) {
		if slices.Contains(unary, op) {
			continue
		}
		for _, a := range []int64{low, -1, 0, 1, high} {
			if got, ok := word.Unary(op, a); got != 0 || ok {
				t.Errorf("%.20q %d: %d, %t", op, a, got, ok)
			}
		}
	}
}

// TestText: P1.3, digits, and what may stand ahead of them.
func TestText(t *testing.T) {
	for _, c := range []struct {
		n    int64
		want string
	}{{0, "0"}, {7, "7"}, {10, "10"}, {-1, "-1"}, {-10, "-10"}, {100, "100"}, {1000000, "1000000"}, {high, "9223372036854775807"}, {low, "-9223372036854775808"}} {
		if got := word.Text(c.n); got != c.want {
			t.Errorf("Text(%d) is %q", c.n, got)
		}
	}
	for _, n := range edges() {
		got := word.Text(n)
		if got != big.NewInt(n).String() {
			t.Errorf("Text(%d) is %q", n, got)
		}
		if back, err := strconv.ParseInt(got, 10, 64); err != nil || back != n {
			t.Errorf("Text(%d) is read as %d", n, back)
		}
		digits, below := strings.CutPrefix(got, "-")
		if below != (n < 0) || len(digits) > 1 && digits[0] == '0' || strings.Trim(digits, "0123456789") != "" {
			t.Errorf("Text(%d) is %q", n, got)
		}
	}
}

// size is how far n is from 0; of low too it is no number below 0.
func size(n int64) uint64 {
	if n < 0 {
		return -uint64(n)
	}
	return uint64(n)
}

// TestQuotientAndRest: P1.4, the two make the dividend, what is left is less
// than the divisor and has the dividend's sign.
func TestQuotientAndRest(t *testing.T) {
	for _, a := range edges() {
		for _, b := range edges() {
			if b == 0 {
				continue
			}
			q, r := binary(t, "/", a, b), binary(t, "%", a, b)
			if got := binary(t, "+", binary(t, "*", q, b), r); got != a {
				t.Errorf("%d / %d: %d and %d make %d", a, b, q, r, got)
			}
			if size(r) >= size(b) || r != 0 && (r < 0) != (a < 0) {
				t.Errorf("%d %% %d: %d", a, b, r)
			}
			if high, least := bits.Mul64(size(q), size(b)); high != 0 || least > size(a) {
				t.Errorf("%d / %d: %d is beyond it", a, b, q)
			}
		}
	}
}

// TestComparisons: P1.4, they are those of numbers: just one of <, ==, > is
// so, the others are made of these, and they go with the order of edges.
func TestComparisons(t *testing.T) {
	l := edges()
	slices.Sort(l)
	l = slices.Compact(l)
	for i, a := range l {
		for j, b := range l {
			less, same, more := binary(t, "<", a, b), binary(t, "==", a, b), binary(t, ">", a, b)
			if less != truth(i < j) || same != truth(i == j) || more != truth(i > j) {
				t.Errorf("%d and %d: <, ==, > are %d, %d, %d", a, b, less, same, more)
			}
			if binary(t, "<=", a, b) != less+same || binary(t, ">=", a, b) != more+same || binary(t, "!=", a, b) != less+more {
				t.Errorf("%d and %d: <=, >=, != are not of <, ==, >", a, b)
			}
		}
	}
}

// TestOpsIsNew: P3, each answer is memory of its own, spare room too.
func TestOpsIsNew(t *testing.T) {
	kept, spoilt := word.Ops(), word.Ops()
	spoilt = spoilt[:cap(spoilt)]
	for i := range spoilt {
		spoilt[i] = "spoilt"
	}
	for k, o := range allOps {
		if kept[k] != o.sign || word.Ops()[k] != o.sign || word.Level(o.sign) != o.level {
			t.Errorf("op %d is spoilt", k)
		}
	}
}

// TestSameAnswers: P4, answers hang on arguments alone, whoever else calls.
func TestSameAnswers(t *testing.T) {
	var all sync.WaitGroup
	for k := range 8 {
		all.Go(func() {
			for i := range allOps {
				o := allOps[(i*5+k)%len(allOps)]
				want, wantTrap := reckon(o.sign, low, int64(k-1))
				if got, trap := word.Binary(o.sign, low, int64(k-1)); got != want || trap != wantTrap {
					t.Errorf("%s: %d, trap %d", o.sign, got, trap)
				}
			}
		})
	}
	all.Wait()
}
