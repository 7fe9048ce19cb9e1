package tree

import (
	"billhook/lex"
	"billhook/word"
)

const mostTag = 1000000

// all tells whether each of l is such.
func all[T any](l []T, such func(x T) bool) bool {
	for _, x := range l {
		if !such(x) {
			return false
		}
	}
	return true
}

func (e Expr) right() bool {
	return e.formed() && all(e.Kids, Expr.right)
}

// formed tells whether e has what its kind asks for, and nothing else,
// whatever its kids are.
func (e Expr) formed() bool {
	kids := len(e.Kids)
	switch e.Kind {
	case Num:
		return e.Op == "" && e.Name == "" && kids == 0
	case Var:
		return e.names() && kids == 0
	case Index:
		return e.names() && kids == 1
	case Unary:
		_, known := word.Unary(e.Op, 0)
		return known && e.reckons() && kids == 1
	case Binary:
		return word.Level(e.Op) > 0 && e.reckons() && kids == 2
	}
	return false
}

func (e Expr) names() bool {
	return lex.IsName(e.Name) && e.Op == "" && e.N == 0
}

func (e Expr) reckons() bool {
	return e.Name == "" && e.N == 0
}

func (s Stmt) right() bool {
	return s.formed() && all(s.E, Expr.right) && all(s.Body, Stmt.right) && all(s.Else, Stmt.right)
}

// formed tells whether s has what its kind asks for, and nothing else,
// whatever stands below.
func (s Stmt) formed() bool {
	if s.Tag < 0 || s.Tag > mostTag {
		return false
	}
	exprs := len(s.E)
	switch s.Kind {
	case Assign:
		return s.sets() && s.blockless() && exprs == 1
	case Store:
		return s.sets() && s.blockless() && exprs == 2
	case Read:
		return s.sets() && s.blockless() && exprs == 0
	case Call:
		return lex.IsName(s.Name) && lex.IsName(s.Func) && s.blockless()
	case If:
		return s.nameless() && exprs == 1
	case While:
		return s.nameless() && len(s.Else) == 0 && exprs == 1
	case Break, Continue:
		return s.nameless() && s.blockless() && exprs == 0
	case Return, Assert:
		return s.nameless() && s.blockless() && exprs == 1
	}
	return false
}

func (s Stmt) sets() bool {
	return lex.IsName(s.Name) && s.Func == ""
}

func (s Stmt) nameless() bool {
	return s.Name == "" && s.Func == ""
}

func (s Stmt) blockless() bool {
	return len(s.Body) == 0 && len(s.Else) == 0
}

func (d Decl) right() bool {
	return lex.IsName(d.Name) && d.Size >= 0
}

func (f Func) right() bool {
	return lex.IsName(f.Name) && all(f.Params, lex.IsName) && all(f.Vars, Decl.right) && all(f.Body, Stmt.right)
}
