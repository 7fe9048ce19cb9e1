package word

import "billhook/api"

// operation is one of two numbers: trap tells what is against its second
// number, work reckons it where nothing is.
type operation struct {
	level int
	trap  func(b number) api.Trap
	work  func(a, b number) number
}

// total is an operation that never traps.
func total(level int, work func(a, b number) number) operation {
	return operation{level, number.noTrap, work}
}

func shift(level int, work func(a, b number) number) operation {
	return operation{level, number.shiftTrap, work}
}

func division(level int, work func(a, b number) number) operation {
	return operation{level, number.zeroTrap, work}
}

// find is a switch, not a search through a table: a run asks it at each
// operation, up to millions of times.
func find(sign string) (o operation, ok bool) {
	switch sign {
	case "||":
		o = total(1, number.either)
	case "&&":
		o = total(2, number.both)
	case "|":
		o = total(3, number.bitOr)
	case "^":
		o = total(4, number.bitXor)
	case "&":
		o = total(5, number.bitAnd)
	case "==":
		o = total(6, number.equal)
	case "!=":
		o = total(6, number.unequal)
	case "<":
		o = total(7, number.less)
	case "<=":
		o = total(7, number.atMost)
	case ">":
		o = total(7, number.more)
	case ">=":
		o = total(7, number.atLeast)
	case "<<":
		o = shift(8, number.left)
	case ">>":
		o = shift(8, number.right)
	case "+":
		o = total(9, number.plus)
	case "-":
		o = total(9, number.minus)
	case "*":
		o = total(10, number.times)
	case "/":
		o = division(10, number.quotient)
	case "%":
		o = division(10, number.rest)
	default:
		return operation{}, false
	}
	return o, true
}

// unaryOperation is one of one number; none of them traps.
type unaryOperation struct {
	work func(a number) number
}

func findUnary(sign string) (o unaryOperation, ok bool) {
	switch sign {
	case "-":
		o.work = number.negative
	case "~":
		o.work = number.turned
	case "!":
		o.work = number.not
	default:
		return unaryOperation{}, false
	}
	return o, true
}
