package parse

import (
	"billhook/lex"
	"billhook/tree"
	"billhook/word"
)

// beyond is the first number that is not to be had without a `-` ahead.
const beyond = 1 << 63

func (p *parser) expr() tree.Expr { return p.bound(1) }

// bound reads operands, and those operations between that bind at least as
// tightly as level asks; what binds more loosely is left to whoever asked.
func (p *parser) bound(level int) tree.Expr {
	x := p.operand()
	for word.Level(p.word().Text) >= level {
		op := p.pass().Text
		second := p.bound(word.Level(op) + 1)
		x = tree.Expr{Kind: tree.Binary, Op: op, Kids: []tree.Expr{x, second}}
	}
	return x
}

func (p *parser) operand() tree.Expr {
	switch {
	case p.atKind(lex.Number):
		return p.number()
	case p.atKind(lex.Name):
		return p.named()
	case p.at("-") && p.ahead(1).Kind == lex.Number:
		return p.negative()
	case p.at("("):
		return within(p, "(", (*parser).expr, ")")
	}
	return p.unary()
}

func (p *parser) number() tree.Expr {
	p.must(p.word().N < beyond)
	return tree.Expr{Kind: tree.Num, N: int64(p.pass().N)}
}

// negative may be of 2^63 too, which chapter 2 lets be the greatest.
func (p *parser) negative() tree.Expr {
	p.pass()
	return tree.Expr{Kind: tree.Num, N: int64(-p.pass().N)}
}

func (p *parser) named() tree.Expr {
	name := p.name()
	if !p.at("[") {
		return tree.Expr{Kind: tree.Var, Name: name}
	}
	return tree.Expr{Kind: tree.Index, Name: name, Kids: []tree.Expr{p.index()}}
}

func (p *parser) index() tree.Expr {
	return within(p, "[", (*parser).expr, "]")
}

// unary is open from its sign on to the end of its operand, as a bracket is.
func (p *parser) unary() tree.Expr {
	_, known := word.Unary(p.word().Text, 0)
	p.must(known)
	p.enter()
	op := p.pass().Text
	kid := p.operand()
	p.leave()
	return tree.Expr{Kind: tree.Unary, Op: op, Kids: []tree.Expr{kid}}
}
