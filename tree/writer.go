package tree

import (
	"strings"

	"billhook/word"
)

// writer gathers a text; blocks is how many are open, each a tab ahead of a
// line.
type writer struct {
	strings.Builder
	blocks int
}

// put tells what is written of x. What is not right is not written at all, so
// that a writer may take the parts of a tree without asking for each whether
// it is there.
func put[T any](x T, right func(x T) bool, write func(w *writer, x T)) string {
	if !right(x) {
		return ""
	}
	var w writer
	write(&w, x)
	return w.String()
}

// list writes each of l, with a comma between.
func list[T any](w *writer, l []T, write func(w *writer, x T)) {
	for i, x := range l {
		if i > 0 {
			w.text(", ")
		}
		write(w, x)
	}
}

func (w *writer) text(parts ...string) {
	for _, part := range parts {
		w.WriteString(part)
	}
}

func (w *writer) name(s string) { w.text(s) }

func (w *writer) tabs() {
	for range w.blocks {
		w.WriteByte('\t')
	}
}

func (w *writer) expr(e Expr) {
	switch e.Kind {
	case Num:
		w.text(word.Text(e.N))
	case Var:
		w.text(e.Name)
	case Index:
		w.around(e.Name+"[", e.Kids[0], "]")
	case Unary:
		w.unary(e.Op, e.Kids[0])
	case Binary:
		w.binary(e.Op, e.Kids[0], e.Kids[1])
	}
}

func (w *writer) around(ahead string, e Expr, behind string) {
	w.text(ahead)
	w.expr(e)
	w.text(behind)
}

func (w *writer) operand(e Expr, brackets bool) {
	if brackets {
		w.around("(", e, ")")
	} else {
		w.expr(e)
	}
}

// unary keeps the negative of a number apart from a number below 0 by
// brackets.
func (w *writer) unary(op string, kid Expr) {
	w.text(op)
	w.operand(kid, kid.Kind == Binary || op == "-" && kid.Kind == Num && kid.N >= 0)
}

func (w *writer) binary(op string, first, second Expr) {
	level := word.Level(op)
	w.operand(first, first.below(level))
	w.text(" ", op, " ")
	w.operand(second, second.below(level+1))
}

// below tells whether e is made of two by an operation of a lesser level.
func (e Expr) below(level int) bool {
	return e.Kind == Binary && word.Level(e.Op) < level
}

func (w *writer) stmts(l []Stmt) {
	for _, s := range l {
		w.tabs()
		w.tag(s.Tag)
		w.stmt(s)
		w.text("\n")
	}
}

func (w *writer) tag(n int) {
	if n > 0 {
		w.text("@", word.Text(int64(n)), " ")
	}
}

// stmt writes from the first word to the last one, with neither the tabs ahead
// nor the end of the line behind.
func (w *writer) stmt(s Stmt) {
	switch s.Kind {
	case Assign:
		w.around(s.Name+" = ", s.E[0], ";")
	case Store:
		w.around(s.Name+"[", s.E[0], "] = ")
		w.around("", s.E[1], ";")
	case Read:
		w.text(s.Name, " = read();")
	case Call:
		w.text(s.Name, " = ", s.Func, "(")
		list(w, s.E, (*writer).expr)
		w.text(");")
	case If:
		w.around("if (", s.E[0], ")")
		w.block(s.Body)
		if len(s.Else) > 0 {
			w.text(" else")
			w.block(s.Else)
		}
	case While:
		w.around("while (", s.E[0], ")")
		w.block(s.Body)
	case Break:
		w.text("break;")
	case Continue:
		w.text("continue;")
	case Return:
		w.around("return ", s.E[0], ";")
	case Assert:
		w.around("assert(", s.E[0], ");")
	}
}

func (w *writer) block(l []Stmt) {
	w.open()
	w.stmts(l)
	w.shut()
}

func (w *writer) open() {
	w.text(" {\n")
	w.blocks++
}

func (w *writer) shut() {
	w.blocks--
	w.tabs()
	w.text("}")
}

func (w *writer) prog(p Prog) {
	for _, f := range p.Funcs {
		w.function(f)
	}
}

func (w *writer) function(f Func) {
	w.text("func ", f.Name, "(")
	list(w, f.Params, (*writer).name)
	w.text(")")
	w.open()
	w.vars(f.Vars)
	w.stmts(f.Body)
	w.shut()
	w.text("\n")
}

func (w *writer) vars(l []Decl) {
	if len(l) == 0 {
		return
	}
	w.tabs()
	w.text("var ")
	list(w, l, (*writer).decl)
	w.text(";\n")
}

func (w *writer) decl(d Decl) {
	w.text(d.Name)
	if d.Size > 0 {
		w.text("[", word.Text(int64(d.Size)), "]")
	}
}
