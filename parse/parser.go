package parse

import (
	"billhook/api"
	"billhook/lex"
)

// parser goes through the words of a text, from the left on; a method that
// reads something leaves it at the word behind that.
type parser struct {
	words  []lex.Token
	passed int
	size   int // of the text, in bytes
	stmts  int // how many have begun
	open   int
	most   int // that were open at once
}

// word is the one that the parser stands at; none has no text, where the words
// have ended.
func (p *parser) word() lex.Token { return p.ahead(0) }

// ahead is the word so many behind the one that the parser stands at.
func (p *parser) ahead(many int) lex.Token {
	if i := p.passed + many; i < len(p.words) {
		return p.words[i]
	}
	return lex.Token{At: p.size}
}

func (p *parser) place() int { return p.word().At }

func (p *parser) ended() bool { return p.passed == len(p.words) }

// at asks for a sign or a key: words of another kind have other texts.
func (p *parser) at(text string) bool { return p.word().Text == text }

func (p *parser) atKind(kind int) bool { return p.word().Kind == kind }

// pass goes on behind the word, whatever it is: whether it may stand there has
// been asked.
func (p *parser) pass() lex.Token {
	t := p.word()
	switch t.Text {
	case "(", "[", "{":
		p.enter()
	case ")", "]", "}":
		p.leave()
	}
	p.passed++
	return t
}

// enter is asked for ahead of the word that opens being passed, so that the
// parser still stands there, if it is too deep.
func (p *parser) enter() {
	if p.open == api.MaxNest {
		panic(api.ErrDeep)
	}
	p.open++
	p.most = max(p.most, p.open)
}

func (p *parser) leave() { p.open-- }

// must stops all, if what is asked of the word does not hold.
func (p *parser) must(holds bool) {
	if !holds {
		panic(api.ErrParse)
	}
}

func (p *parser) take(text string) {
	p.must(p.at(text))
	p.pass()
}

func (p *parser) takeKind(kind int) lex.Token {
	p.must(p.atKind(kind))
	return p.pass()
}

func (p *parser) name() string { return p.takeKind(lex.Name).Text }

func (p *parser) end() { p.must(p.ended()) }

// within reads what stands between two halves of brackets.
func within[T any](p *parser, open string, inside func(p *parser) T, shut string) T {
	p.take(open)
	x := inside(p)
	p.take(shut)
	return x
}

// list reads one or more, with a comma between.
func list[T any](p *parser, item func(p *parser) T) []T {
	l := []T{item(p)}
	for p.at(",") {
		p.pass()
		l = append(l, item(p))
	}
	return l
}

// arguments reads none, or more, in brackets.
func arguments[T any](p *parser, item func(p *parser) T) []T {
	return within(p, "(", func(p *parser) []T {
		if p.at(")") {
			return nil
		}
		return list(p, item)
	}, ")")
}
