package parse

import (
	"billhook/lex"
	"billhook/tree"
)

// mostSize is the greatest that may be written; chapter 5 lets fewer run.
const mostSize = 1000000

func (p *parser) program() tree.Prog {
	l := []tree.Func{p.function()}
	for !p.ended() {
		l = append(l, p.function())
	}
	return tree.Prog{Funcs: l}
}

func (p *parser) function() tree.Func {
	p.take("func")
	f := tree.Func{Name: p.name()}
	f.Params = arguments(p, (*parser).name)
	p.take("{")
	f.Vars = p.vars()
	f.Body = p.block()
	p.take("}")
	return f
}

func (p *parser) vars() []tree.Decl {
	if !p.at("var") {
		return nil
	}
	p.pass()
	l := list(p, (*parser).decl)
	p.take(";")
	return l
}

func (p *parser) decl() tree.Decl {
	d := tree.Decl{Name: p.name()}
	if p.at("[") {
		d.Size = within(p, "[", (*parser).length, "]")
	}
	return d
}

func (p *parser) length() int {
	n := p.word().N
	p.must(p.atKind(lex.Number) && 1 <= n && n <= mostSize)
	p.pass()
	return int(n)
}
