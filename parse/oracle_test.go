package parse_test

import (
	"slices"
	"strings"

	"billhook/api"
	"billhook/lex"
)

// The oracle says of a text what the chapter asks by other means than the
// program: all ways on through the grammar are followed at once, and what is
// open is counted at each word anew, as the chapter puts it.

// grammar is P4.1 and P4.2, each line the ways in which a thing is built. What
// is no thing of it is a word, or a kind of words. What nests begins no two ways
// alike, so that there are never many to follow.
func grammar() map[string][][]string {
	told := map[string][][]string{}
	for _, line := range strings.Split(strings.TrimSpace(`
program: func functions
functions: / func functions
func: "func NAME "( params ") "{ vars stmts "}
params: / NAME names
names: / ", NAME names
vars: / "var decl decls ";
decls: / ", decl decls
decl: NAME size
size: / "[ SIZE "]
stmts: / stmt stmts
stmt: TAG plain / plain
plain: NAME "= "read "( ") "; / NAME "= NAME "( args ") "; / NAME "= expr "; / NAME "[ expr "] "= expr "; / "if test body else / "while test body / "break "; / "continue "; / "return expr "; / "assert test ";
else: / "else body
test: "( expr ")
body: "{ stmts "}
args: / expr exprs
exprs: / ", expr exprs
expr: operand more
more: / OP operand more
operand: NUMBER / "- ANYNUMBER / UNARY operand / NAME index / "( expr ")
index: / "[ expr "]
`), "\n") {
		name, ways, _ := strings.Cut(line, ":")
		for _, way := range strings.Split(ways, "/") {
			told[name] = append(told[name], strings.Fields(way))
		}
	}
	return told
}

// fits tells whether t is what part of a way asks for.
func fits(t lex.Token, part string) bool {
	switch part {
	case "NAME":
		return t.Kind == lex.Name
	case "TAG":
		return t.Kind == lex.Tag && t.N > 0
	case "SIZE":
		return t.Kind == lex.Number && t.N >= 1 && t.N <= 1000000
	case "NUMBER":
		return t.Kind == lex.Number && t.N < 1<<63
	case "ANYNUMBER":
		return t.Kind == lex.Number
	case "OP":
		return slices.Contains(ops, t.Text)
	case "UNARY":
		return slices.Contains(unaries, t.Text)
	}
	return part == `"`+t.Text
}

// way is what must come still, the first part ahead; nil where nothing must.
type way struct {
	part string
	rest *way
}

// key tells ways apart by what is in them.
func (w *way) key() string {
	var b strings.Builder
	for ; w != nil; w = w.rest {
		b.WriteString(w.part + " ")
	}
	return b.String()
}

// oracle follows all ways on at once.
type oracle struct {
	things map[string][][]string
	ways   []*way
	stmts  int
}

// spread puts for each thing that comes first the ways to build it, until a
// word comes first in all; it tells whether a list of statements was one.
func (o *oracle) spread() (list bool) {
	var told []*way
	seen := map[string]bool{}
	work := slices.Clone(o.ways)
	for len(work) > 0 {
		w := work[0]
		work = work[1:]
		if k := w.key(); seen[k] {
			continue
		} else {
			seen[k] = true
		}
		if w == nil || o.things[w.part] == nil {
			told = append(told, w)
			continue
		}
		list = list || w.part == "stmts"
		for _, parts := range o.things[w.part] {
			next := w.rest
			for _, part := range slices.Backward(parts) {
				next = &way{part, next}
			}
			work = append(work, next)
		}
	}
	o.ways = told
	return list
}

// step goes on behind t: false, if it may not stand there.
func (o *oracle) step(t lex.Token) bool {
	var told []*way
	for _, w := range o.ways {
		if w != nil && fits(t, w.part) {
			told = append(told, w.rest)
		}
	}
	o.ways = told
	return len(told) > 0
}

// ends tells whether the text may end there.
func (o *oracle) ends() bool { return slices.Contains(o.ways, nil) }

// judge tells what P4.3 asks of s as such a thing, and how many are open at
// most where no error is told.
func judge(s, thing string) (most, at int, e api.Errno) {
	words, at, e := lex.All(s)
	if e != api.OK {
		return 0, at, e
	}
	o := &oracle{things: grammar(), ways: []*way{{part: thing}}}
	for i, t := range words {
		list := o.spread()
		stands := o.step(t)
		begins := list && t.Text != "}" && !(stands && (t.Text == "else" || t.Text == "var"))
		if begins && o.stmts == api.MaxNodes {
			return 0, t.At, api.ErrBig
		}
		if !stands {
			return 0, t.At, api.ErrParse
		}
		if begins {
			o.stmts++
		}
		n := open(words, i)
		if n > api.MaxNest {
			return 0, t.At, api.ErrDeep
		}
		most = max(most, n)
	}
	list := o.spread()
	if o.ends() {
		return most, len(s), api.OK
	}
	if list && o.stmts == api.MaxNodes {
		return 0, len(s), api.ErrBig
	}
	return 0, len(s), api.ErrParse
}

// open is how many are open at word i, as P4.3 says, word by word.
func open(words []lex.Token, i int) (n int) {
	for k := range i + 1 {
		switch {
		case slices.Contains([]string{"(", "[", "{"}, words[k].Text):
			if shut := shuts(words, k); shut < 0 || shut >= i {
				n++
			}
		case isSign(words, k):
			if end := operandEnd(words, k+1); end < 0 || end >= i {
				n++
			}
		}
	}
	return n
}

// shuts is where the other half of the bracket at k stands; -1, if nowhere.
func shuts(words []lex.Token, k int) int {
	deep := 0
	for i := k; i < len(words); i++ {
		switch words[i].Text {
		case "(", "[", "{":
			deep++
		case ")", "]", "}":
			if deep--; deep == 0 {
				return i
			}
		}
	}
	return -1
}

// isSign tells whether at k stands the sign of a Unary: no operand ends just
// ahead, and it is no `-` of a Num.
func isSign(words []lex.Token, k int) bool {
	if !slices.Contains(unaries, words[k].Text) {
		return false
	}
	if k > 0 {
		t := words[k-1]
		if t.Kind == lex.Name || t.Kind == lex.Number || t.Text == ")" || t.Text == "]" {
			return false
		}
	}
	return words[k].Text != "-" || k+1 == len(words) || words[k+1].Kind != lex.Number
}

// operandEnd is where the operand that begins at k ends; -1, if nowhere.
func operandEnd(words []lex.Token, k int) int {
	for k < len(words) && slices.Contains(unaries, words[k].Text) {
		k++
	}
	switch {
	case k >= len(words):
		return -1
	case words[k].Text == "(":
		return shuts(words, k)
	case k+1 < len(words) && words[k].Kind == lex.Name && words[k+1].Text == "[":
		return shuts(words, k+1)
	}
	return k
}
