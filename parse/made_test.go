package parse_test

import (
	"math/rand"
	"slices"
	"strings"
	"testing"

	"billhook/api"
	"billhook/lex"
	"billhook/parse"
	"billhook/tree"
)

// maker makes trees by chance, and puts them as words in its own way, with
// brackets that need not be.
type maker struct {
	*rand.Rand
	words []string
}

func (m *maker) put(words ...string) { m.words = append(m.words, words...) }

func pick[T any](m *maker, l ...T) T { return l[m.Intn(len(l))] }

func (m *maker) name() string {
	return pick(m, "a", "b", "c", "x1", "_", "readx", "If", strings.Repeat("z", 24))
}

func (m *maker) expr(deep int) tree.Expr {
	if deep == 0 || m.Intn(4) == 0 {
		if m.Intn(2) == 0 {
			return v(m.name())
		}
		return num(pick(m, 0, 1, -1, 7, -7, high, low, -high, m.Int63(), -m.Int63()))
	}
	switch m.Intn(4) {
	case 0:
		return index(m.name(), m.expr(deep-1))
	case 1:
		return un(pick(m, unaries...), m.expr(deep-1))
	}
	return bin(m.expr(deep-1), pick(m, ops...), m.expr(deep-1))
}

func (m *maker) exprs(deep int) (l []tree.Expr) {
	for range m.Intn(4) {
		l = append(l, m.expr(deep))
	}
	return l
}

func (m *maker) stmt(deep int) tree.Stmt {
	s := m.plain(deep)
	if m.Intn(4) == 0 {
		s.Tag = pick(m, 1, 2, 1000000, 1+m.Intn(1000000))
	}
	return s
}

func (m *maker) plain(deep int) tree.Stmt {
	n := 8
	if deep > 0 {
		n = 12
	}
	switch m.Intn(n) {
	case 0:
		return store(m.name(), m.expr(2), m.expr(2))
	case 1:
		return input(m.name())
	case 2:
		return call(m.name(), m.name(), m.exprs(2)...)
	case 3:
		return of(tree.Break)
	case 4:
		return of(tree.Continue)
	case 5:
		return of(tree.Return, m.expr(3))
	case 6:
		return of(tree.Assert, m.expr(3))
	case 7:
		return assign(m.name(), m.expr(4))
	case 8, 9:
		return loop(m.expr(2), m.stmts(deep-1)...)
	}
	return branch(m.expr(2), m.stmts(deep-1), m.stmts(deep-1))
}

func (m *maker) stmts(deep int) (l []tree.Stmt) {
	for range m.Intn(4) {
		l = append(l, m.stmt(deep))
	}
	return l
}

func (m *maker) function() (f tree.Func) {
	f.Name = m.name()
	for range m.Intn(3) {
		f.Params = append(f.Params, m.name())
	}
	for range m.Intn(4) {
		f.Vars = append(f.Vars, tree.Decl{Name: m.name(), Size: pick(m, 0, 0, 1, 64, 1000000)})
	}
	f.Body = m.stmts(3)
	return f
}

func (m *maker) program() (p tree.Prog) {
	for range 1 + m.Intn(3) {
		p.Funcs = append(p.Funcs, m.function())
	}
	return p
}

// putExpr puts brackets where they must be, and at times where they need not.
func (m *maker) putExpr(e tree.Expr, must bool) {
	if must || m.Intn(8) == 0 {
		m.put("(")
		m.putExpr(e, false)
		m.put(")")
		return
	}
	switch e.Kind {
	case tree.Num:
		digits, below := strings.CutPrefix(text(e.N), "-")
		if below {
			m.put("-")
		}
		m.put(digits)
	case tree.Var:
		m.put(e.Name)
	case tree.Index:
		m.put(e.Name, "[")
		m.putExpr(e.Kids[0], false)
		m.put("]")
	case tree.Unary:
		kid := e.Kids[0]
		m.put(e.Op)
		m.putExpr(kid, kid.Kind == tree.Binary || kid.Kind == tree.Num && kid.N >= 0 && e.Op == "-")
	case tree.Binary:
		a, b := e.Kids[0], e.Kids[1]
		m.putExpr(a, a.Kind == tree.Binary && levels[a.Op] < levels[e.Op])
		m.put(e.Op)
		m.putExpr(b, b.Kind == tree.Binary && levels[b.Op] <= levels[e.Op])
	}
}

func text(n int64) string { return tree.PutExpr(num(n)) }

// putList puts each of l, with commas between.
func putList[T any](m *maker, l []T, put func(x T)) {
	for i, x := range l {
		if i > 0 {
			m.put(",")
		}
		put(x)
	}
}

func (m *maker) putAny(e tree.Expr) { m.putExpr(e, false) }

func (m *maker) putTest(key string, e tree.Expr) {
	m.put(key)
	m.put("(")
	m.putAny(e)
	m.put(")")
}

func (m *maker) putBlock(l []tree.Stmt) {
	m.put("{")
	for _, s := range l {
		m.putStmt(s)
	}
	m.put("}")
}

func (m *maker) putStmt(s tree.Stmt) {
	if s.Tag > 0 {
		m.put("@" + text(int64(s.Tag)))
	}
	switch s.Kind {
	case tree.If:
		m.putTest("if", s.E[0])
		m.putBlock(s.Body)
		if len(s.Else) > 0 || m.Intn(4) == 0 {
			m.put("else")
			m.putBlock(s.Else)
		}
		return
	case tree.While:
		m.putTest("while", s.E[0])
		m.putBlock(s.Body)
		return
	case tree.Assign:
		m.put(s.Name, "=")
		m.putAny(s.E[0])
	case tree.Store:
		m.put(s.Name, "[")
		m.putAny(s.E[0])
		m.put("]", "=")
		m.putAny(s.E[1])
	case tree.Read:
		m.put(s.Name, "=", "read", "(", ")")
	case tree.Call:
		m.put(s.Name, "=", s.Func, "(")
		putList(m, s.E, m.putAny)
		m.put(")")
	case tree.Break:
		m.put("break")
	case tree.Continue:
		m.put("continue")
	case tree.Return:
		m.put("return")
		m.putAny(s.E[0])
	case tree.Assert:
		m.putTest("assert", s.E[0])
	}
	m.put(";")
}

func (m *maker) putProgram(p tree.Prog) {
	for _, f := range p.Funcs {
		m.put("func", f.Name, "(")
		putList(m, f.Params, func(s string) { m.put(s) })
		m.put(")", "{")
		if len(f.Vars) > 0 {
			m.put("var")
			putList(m, f.Vars, m.putDecl)
			m.put(";")
		}
		for _, s := range f.Body {
			m.putStmt(s)
		}
		m.put("}")
	}
}

func (m *maker) putDecl(d tree.Decl) {
	m.put(d.Name)
	if d.Size > 0 {
		m.put("[", text(int64(d.Size)), "]")
	}
}

// text puts the words, with space between where there must be some, and at
// times where there need not.
func (m *maker) text() string {
	var b strings.Builder
	for i, w := range m.words {
		if m.Intn(3) == 0 {
			b.WriteString(pick(m, " ", "\n", "\t", "  \r\n"))
		} else if i > 0 && joins(m.words[i-1], w) {
			b.WriteByte(' ')
		}
		b.WriteString(w)
	}
	return b.String()
}

// joins tells whether two words are not those two with nothing between.
func joins(a, b string) bool {
	l, _, e := lex.All(a + b)
	return e != api.OK || len(l) != 2 || l[0].Text != a
}

// TestMade: P4.1 and P4.2, programs and expressions made by chance are parsed
// as what they were made of, however they were put.
func TestMade(t *testing.T) {
	m := &maker{Rand: rand.New(rand.NewSource(4))}
	for range 3000 {
		p := m.program()
		m.words = nil
		m.putProgram(p)
		if s := m.text(); len(s) <= api.MaxText {
			program(t, s, p)
			again(t, s)
		}
		x := m.expr(6)
		m.words = nil
		m.putAny(x)
		s := m.text()
		if got, at, e := parse.Expr(s); len(s) <= api.MaxText && (e != api.OK || at != len(s) || !tree.SameExpr(got, x)) {
			t.Errorf("Expr(%q): error %d at %d, %s", s, e, at, tree.PutExpr(got))
		}
	}
}

// again holds P4.5 against a text that is parsed.
func again(t *testing.T, s string) {
	t.Helper()
	p, _, _ := parse.Parse(s)
	put := tree.Put(p)
	if len(put) > api.MaxText {
		return
	}
	back, at, e := parse.Parse(put)
	if e != api.OK || at != len(put) || !tree.Same(p, back) || tree.Put(back) != put {
		t.Errorf("%q is put as %q: error %d at %d", s, put, e, at)
	}
	if parse.Nest(put) > parse.Nest(s) {
		t.Errorf("%q opens more than %q", put, s)
	}
}

// agree fails, if Parse, Expr or Nest tells something else of s than the
// oracle.
func agree(t *testing.T, s string) (e api.Errno) {
	t.Helper()
	most, at, e := judge(s, "program")
	mostExpr, atExpr, eExpr := judge(s, "expr")
	p, gotAt, got := parse.Parse(s)
	if got != e || gotAt != at || e != api.OK && !nothing(p) {
		t.Errorf("Parse(%q): error %d at %d; asked is error %d at %d", s, got, gotAt, e, at)
	}
	x, gotAt, got := parse.Expr(s)
	if got != eExpr || gotAt != atExpr || eExpr != api.OK && !nothingExpr(x) {
		t.Errorf("Expr(%q): error %d at %d; asked is error %d at %d", s, got, gotAt, eExpr, atExpr)
	}
	want := -1
	if e == api.OK {
		want = most
	} else if eExpr == api.OK {
		want = mostExpr
	}
	if got := parse.Nest(s); got != want {
		t.Errorf("Nest(%q) is %d; asked is %d", s, got, want)
	}
	return e
}

// anyWord is one that may stand somewhere, or nowhere.
func (m *maker) anyWord() string {
	l := append([]string{"a", "f", "0", "1", "9223372036854775807", "9223372036854775808", "1000000", "1000001", "@0", "@1", "@1000000", "~", "!", "(", ")", "[", "]", "{", "}", ",", ";", "=", "-", "-", "(", "[", ")", "]", ";"}, ops...)
	l = append(l, "func", "var", "if", "else", "while", "break", "continue", "return", "assert", "read", "@", "#")
	return pick(m, l...)
}

// TestSpoilt: P4.3 and P4.4, programs with words put in, left out, changed,
// doubled or cut off, against the oracle.
func TestSpoilt(t *testing.T) {
	m := &maker{Rand: rand.New(rand.NewSource(5))}
	told := map[api.Errno]int{}
	for range 6000 {
		m.words = nil
		if m.Intn(3) == 0 {
			m.putAny(m.expr(4))
		} else {
			m.putProgram(tree.Prog{Funcs: []tree.Func{m.function()}})
		}
		for range m.Intn(3) {
			m.spoil()
		}
		if len(m.words) < 300 {
			told[agree(t, m.text())]++
		}
	}
	for _, e := range []api.Errno{api.OK, api.ErrLex, api.ErrParse} {
		if told[e] < 20 {
			t.Errorf("error %d was told %d times alone", e, told[e])
		}
	}
}

func (m *maker) spoil() {
	n := len(m.words)
	if n == 0 {
		return
	}
	i := m.Intn(n)
	switch m.Intn(5) {
	case 0:
		m.words = slices.Insert(m.words, i, m.anyWord())
	case 1:
		m.words = slices.Delete(m.words, i, i+1)
	case 2:
		m.words[i] = m.anyWord()
	case 3:
		m.words = slices.Insert(m.words, i, m.words[i])
	case 4:
		m.words = m.words[:i]
	}
}

// TestSpoiltDeep: P4.3 and P4.4, texts about as deep as may be, against the
// oracle.
func TestSpoiltDeep(t *testing.T) {
	m := &maker{Rand: rand.New(rand.NewSource(6))}
	told := map[api.Errno]int{}
	for range 1500 {
		m.words = nil
		shut := []string{}
		if m.Intn(2) == 0 {
			m.put("func", "f", "(", ")", "{")
			shut = append(shut, "}")
			for range m.Intn(42) {
				m.put(pick(m, "while", "if"), "(", "a", ")", "{")
				shut = append(shut, "}")
			}
			m.put("a", "=")
			shut = append(shut, ";")
		}
		for len(shut) < 33+m.Intn(10) {
			switch m.Intn(3) {
			case 0:
				m.put(pick(m, unaries...))
				shut = append(shut, "")
			case 1:
				m.put("(")
				shut = append(shut, ")")
			case 2:
				m.put("a", "[")
				shut = append(shut, "]")
			}
		}
		m.putAny(m.expr(2))
		for _, w := range slices.Backward(shut) {
			if w != "" {
				m.put(w)
			}
		}
		for range m.Intn(2) {
			m.spoil()
		}
		told[agree(t, m.text())]++
	}
	for _, e := range []api.Errno{api.OK, api.ErrParse, api.ErrDeep} {
		if told[e] < 20 {
			t.Errorf("error %d was told %d times alone", e, told[e])
		}
	}
}

// TestSpoiltBig: P4.3, programs of about MaxNodes statements, against the
// oracle.
func TestSpoiltBig(t *testing.T) {
	m := &maker{Rand: rand.New(rand.NewSource(7))}
	told := map[api.Errno]int{}
	for range 60 {
		m.words = nil
		n := api.MaxNodes - 2 + m.Intn(5)
		blocks := 0
		m.put("func", "f", "(", ")", "{")
		for range n {
			switch m.Intn(40) {
			case 0:
				m.put("if", "(", "a", ")", "{")
				blocks++
			case 1:
				m.put("while", "(", "a", ")", "{", "}")
			case 2:
				m.put("@5", "a", "=", "1", ";")
			case 3:
				if blocks > 0 {
					m.put("}")
					blocks--
				} else {
					m.put("}", "func", "g", "(", ")", "{")
				}
				m.put("break", ";")
			default:
				m.put("break", ";")
			}
		}
		for range blocks {
			m.put("}")
		}
		m.put("}")
		for range m.Intn(2) {
			m.spoil()
		}
		told[agree(t, strings.Join(m.words, " "))]++
	}
	for _, e := range []api.Errno{api.OK, api.ErrParse, api.ErrBig} {
		if told[e] < 3 {
			t.Errorf("error %d was told %d times alone", e, told[e])
		}
	}
}

// TestHandmadeAgainstOracle: the texts that are refused by hand are refused so
// by the oracle too, so that it is right where it is asked.
func TestHandmadeAgainstOracle(t *testing.T) {
	for _, c := range slices.Concat(wrongPrograms, wrongExprs) {
		s, _ := marked(t, c)
		agree(t, s)
	}
	for _, c := range slices.Concat(wrongVars, wrongBodies) {
		s, _ := marked(t, c)
		agree(t, "func f() {"+s)
		agree(t, "func f() {"+s+"}")
	}
}
