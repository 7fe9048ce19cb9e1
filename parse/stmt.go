package parse

import (
	"billhook/api"
	"billhook/lex"
	"billhook/tree"
)

// block reads statements up to the `}` that ends them; that is not passed.
func (p *parser) block() (l []tree.Stmt) {
	for !p.at("}") {
		if p.stmts == api.MaxNodes {
			panic(api.ErrBig)
		}
		p.stmts++
		l = append(l, p.stmt())
	}
	return l
}

func (p *parser) braced() []tree.Stmt {
	return within(p, "{", (*parser).block, "}")
}

func (p *parser) stmt() tree.Stmt {
	tag := p.tag()
	s := p.rule()(p)
	s.Tag = tag
	return s
}

// tag is 0 where none stands.
func (p *parser) tag() int {
	if !p.atKind(lex.Tag) {
		return 0
	}
	p.must(p.word().N > 0)
	return int(p.pass().N)
}

// rule tells how the statement is read that begins with the word.
func (p *parser) rule() func(p *parser) tree.Stmt {
	switch p.word().Text {
	case "if":
		return (*parser).branch
	case "while":
		return (*parser).loop
	case "break":
		return (*parser).breakOff
	case "continue":
		return (*parser).goOn
	case "return":
		return (*parser).giveBack
	case "assert":
		return (*parser).assertion
	}
	return (*parser).setting
}

func (p *parser) branch() tree.Stmt {
	s := tree.Stmt{Kind: tree.If, E: p.test("if"), Body: p.braced()}
	if p.at("else") {
		p.pass()
		s.Else = p.braced()
	}
	return s
}

func (p *parser) loop() tree.Stmt {
	return tree.Stmt{Kind: tree.While, E: p.test("while"), Body: p.braced()}
}

// test reads the key, and the one expression in brackets behind it.
func (p *parser) test(key string) []tree.Expr {
	p.take(key)
	return []tree.Expr{within(p, "(", (*parser).expr, ")")}
}

func (p *parser) breakOff() tree.Stmt {
	p.take("break")
	return p.ending(tree.Stmt{Kind: tree.Break})
}

func (p *parser) goOn() tree.Stmt {
	p.take("continue")
	return p.ending(tree.Stmt{Kind: tree.Continue})
}

func (p *parser) giveBack() tree.Stmt {
	p.take("return")
	return p.ending(tree.Stmt{Kind: tree.Return, E: []tree.Expr{p.expr()}})
}

func (p *parser) assertion() tree.Stmt {
	return p.ending(tree.Stmt{Kind: tree.Assert, E: p.test("assert")})
}

// ending passes the `;` behind s.
func (p *parser) ending(s tree.Stmt) tree.Stmt {
	p.take(";")
	return s
}

// setting reads what begins with a name: what comes behind that tells whether
// an element is set, or a number, and by what.
func (p *parser) setting() tree.Stmt {
	name := p.name()
	if p.at("[") {
		return p.store(name)
	}
	p.take("=")
	switch {
	case p.at("read"):
		return p.input(name)
	case p.atKind(lex.Name) && p.ahead(1).Text == "(":
		return p.call(name)
	}
	return p.ending(tree.Stmt{Kind: tree.Assign, Name: name, E: []tree.Expr{p.expr()}})
}

func (p *parser) store(name string) tree.Stmt {
	index := p.index()
	p.take("=")
	return p.ending(tree.Stmt{Kind: tree.Store, Name: name, E: []tree.Expr{index, p.expr()}})
}

func (p *parser) input(name string) tree.Stmt {
	p.take("read")
	p.take("(")
	p.take(")")
	return p.ending(tree.Stmt{Kind: tree.Read, Name: name})
}

func (p *parser) call(name string) tree.Stmt {
	s := tree.Stmt{Kind: tree.Call, Name: name, Func: p.name()}
	s.E = arguments(p, (*parser).expr)
	return p.ending(s)
}
