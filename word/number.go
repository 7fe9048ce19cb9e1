package word

import "billhook/api"

// number is a number of 64 bits with a sign; the operations are its methods.
type number int64

func truth(holds bool) number {
	if holds {
		return 1
	}
	return 0
}

// The traps, each asked of the second number of an operation.

func (b number) noTrap() api.Trap { return api.None }

func (b number) zeroTrap() api.Trap {
	if b == 0 {
		return api.Zero
	}
	return api.None
}

func (b number) shiftTrap() api.Trap {
	if b < 0 || b > 63 {
		return api.Shift
	}
	return api.None
}

// The operations of two numbers. Go's own wrap, cut quotients towards 0, and
// shift to the right with the sign, just as the document asks; what Go would
// panic at, the traps keep away.

func (a number) plus(b number) number     { return a + b }
func (a number) minus(b number) number    { return a - b }
func (a number) times(b number) number    { return a * b }
func (a number) quotient(b number) number { return a / b }
func (a number) rest(b number) number     { return a % b }

func (a number) bitOr(b number) number  { return a | b }
func (a number) bitXor(b number) number { return a ^ b }
func (a number) bitAnd(b number) number { return a & b }

func (a number) left(b number) number  { return a << b }
func (a number) right(b number) number { return a >> b }

func (a number) equal(b number) number   { return truth(a == b) }
func (a number) unequal(b number) number { return truth(a != b) }
func (a number) less(b number) number    { return truth(a < b) }
func (a number) atMost(b number) number  { return truth(a <= b) }
func (a number) more(b number) number    { return truth(a > b) }
func (a number) atLeast(b number) number { return truth(a >= b) }

func (a number) both(b number) number   { return truth(a != 0 && b != 0) }
func (a number) either(b number) number { return truth(a != 0 || b != 0) }

// The operations of one number.

func (a number) negative() number { return -a }
func (a number) turned() number   { return ^a }
func (a number) not() number      { return truth(a == 0) }
