package lex_test

import (
	"math/big"
	"math/rand"
	"regexp"
	"slices"
	"strconv"
	"strings"
	"sync"
	"testing"

	"billhook/api"
	"billhook/lex"
)

// Both are written out once more, so that the tests do not hang on the program.
var keys = []string{"func", "var", "if", "else", "while", "break", "continue", "return", "assert", "read"}

var signs = []string{
	"||", "&&", "|", "^", "&", "==", "!=", "<", "<=", ">", ">=", "<<", ">>", "+", "-", "*", "/", "%",
	"~", "!", "(", ")", "[", "]", "{", "}", ",", ";", "=",
}

const (
	space   = "\t\n\r "
	letters = "abcdefghijklmnopqrstuvwxyzABCDEFGHIJKLMNOPQRSTUVWXYZ_"
	digits  = "0123456789"
)

func name(text string, at int) lex.Token { return lex.Token{Kind: lex.Name, Text: text, At: at} }
func key(text string, at int) lex.Token  { return lex.Token{Kind: lex.Key, Text: text, At: at} }
func sign(text string, at int) lex.Token { return lex.Token{Kind: lex.Sign, Text: text, At: at} }
func number(text string, n uint64, at int) lex.Token {
	return lex.Token{Kind: lex.Number, Text: text, N: n, At: at}
}
func tag(text string, n uint64, at int) lex.Token {
	return lex.Token{Kind: lex.Tag, Text: text, N: n, At: at}
}

// hold fails, if All(s) is not just these words, place and error.
func hold(t *testing.T, s string, want []lex.Token, wantAt int, wantErr api.Errno) {
	t.Helper()
	if l, at, e := lex.All(s); !slices.Equal(l, want) || at != wantAt || e != wantErr {
		t.Errorf("All(%.60q): %.400v, at %d, error %d; asked is %.400v, at %d, error %d", s, l, at, e, want, wantAt, wantErr)
	}
}

// words fails, if s is not read as just these.
func words(t *testing.T, s string, want ...lex.Token) {
	t.Helper()
	hold(t, s, want, len(s), api.OK)
}

// wrong fails, if not just ErrLex is told of s, at that place.
func wrong(t *testing.T, s string, at int) {
	t.Helper()
	hold(t, s, nil, at, api.ErrLex)
}

// TestKinds: the kinds have the numbers that the chapter gives.
func TestKinds(t *testing.T) {
	if lex.Name != 1 || lex.Number != 2 || lex.Tag != 3 || lex.Sign != 4 || lex.Key != 5 {
		t.Error("kinds are", lex.Name, lex.Number, lex.Tag, lex.Sign, lex.Key)
	}
}

// TestSpace: P2.1, of all bytes just 9, 10, 13 and 32 are passed by, wherever
// they stand.
func TestSpace(t *testing.T) {
	for b := range 256 {
		s := string([]byte{byte(b)})
		if b == 9 || b == 10 || b == 13 || b == 32 {
			words(t, s)
			words(t, s+"a"+s+s+"b"+s, name("a", 1), name("b", 4))
		} else if l, _, e := lex.All(s); e == api.OK && len(l) == 0 {
			t.Errorf("byte %d is space", b)
		}
	}
}

// TestIsKey: P2.1, the ten keys, and nothing beside them.
func TestIsKey(t *testing.T) {
	for _, k := range keys {
		if !lex.IsKey(k) {
			t.Errorf("%q is no key", k)
		}
		for _, s := range []string{k + "s", "_" + k, k + "_", k + "1", k[1:], k[:len(k)-1], " " + k, k + " ", k + "\x00", strings.ToUpper(k), strings.ToUpper(k[:1]) + k[1:], k + k} {
			if lex.IsKey(s) && !slices.Contains(keys, s) {
				t.Errorf("%q is a key", s)
			}
		}
	}
	for _, s := range append([]string{"", " ", "a", "main", "for", "goto", "int", "_", "0", "@1", "\xff", strings.Repeat("if", 100000)}, signs...) {
		if lex.IsKey(s) {
			t.Errorf("%.20q is a key", s)
		}
	}
}

// TestIsName: P2.1, by hand: the edges of the length, keys, and what is none.
func TestIsName(t *testing.T) {
	for _, s := range []string{"a", "z", "A", "Z", "_", "__", "_1", "a1", "main", "If", "IF", "iff", "_if", "if_", "if1", "Read", "x_Y_9", strings.Repeat("a", 24), "_" + strings.Repeat("9", 23)} {
		if !lex.IsName(s) {
			t.Errorf("%q is no name", s)
		}
	}
	for _, s := range append([]string{"", " ", "1", "1a", "0", "@1", "@", "a ", " a", "a b", "a-b", "a\x00", "\x00a", "a\n", "é", "aé", "а", "a１", "ａ", "a\xff", "\xff", "a.b", "a@", "a$",
		strings.Repeat("a", 25), "_" + strings.Repeat("9", 24), strings.Repeat("_", 1000000)}, append(keys, signs...)...) {
		if lex.IsName(s) {
			t.Errorf("%.30q is a name", s)
		}
	}
}

// TestNameBytes: P2.1, which bytes may stand first, and which ones behind.
func TestNameBytes(t *testing.T) {
	for b := range 256 {
		s := string([]byte{byte(b)})
		first := strings.Contains(letters, s)
		behind := first || strings.Contains(digits, s)
		if lex.IsName(s) != first || lex.IsName(s+"a") != first {
			t.Errorf("byte %d, first in a name: %t", b, !first)
		}
		if lex.IsName("a"+s) != behind || lex.IsName("a"+s+"a") != behind {
			t.Errorf("byte %d, behind in a name: %t", b, !behind)
		}
	}
}

// TestNames: P2.2, a word of letters goes on as long as it can, and is a Key or
// a Name; ErrLex, if it is too long.
func TestNames(t *testing.T) {
	for _, k := range keys {
		words(t, k, key(k, 0))
		words(t, " "+k+" "+k+"x _"+k, key(k, 1), name(k+"x", 2+len(k)), name("_"+k, 4+2*len(k)))
		words(t, k+"1;"+k, name(k+"1", 0), sign(";", len(k)+1), key(k, len(k)+2))
		words(t, strings.ToUpper(k), name(strings.ToUpper(k), 0))
	}
	long := strings.Repeat("aZ_9", 6)
	words(t, long, name(long, 0))
	words(t, "("+long+")", sign("(", 0), name(long, 1), sign(")", 25))
	wrong(t, long+"0", 0)
	wrong(t, "x = "+long+"z;", 4)
	wrong(t, strings.Repeat("_", api.MaxText), 0)
	wrong(t, strings.Repeat("while", 5), 0)
	words(t, "ifelse", name("ifelse", 0))
	words(t, "a1b2", name("a1b2", 0))
	words(t, "_", name("_", 0))
	wrong(t, "aé", 1)
}

// TestNumbers: P2.2, digits, the edges of N, and a 0 that stands ahead.
func TestNumbers(t *testing.T) {
	for _, c := range []struct {
		s string
		n uint64
	}{{"0", 0}, {"1", 1}, {"9", 9}, {"10", 10}, {"100", 100}, {"102030", 102030}, {"9223372036854775807", 1<<63 - 1}, {"9223372036854775808", 1 << 63}} {
		words(t, c.s, number(c.s, c.n, 0))
		words(t, " "+c.s+"x1 -"+c.s, number(c.s, c.n, 1), name("x1", 1+len(c.s)), sign("-", 4+len(c.s)), number(c.s, c.n, 5+len(c.s)))
	}
	for _, s := range []string{"00", "01", "007", "0000000000000000000000000000", "08", "01x",
		"9223372036854775809", "9223372036854775810", "10000000000000000000", "18446744073709551615", "18446744073709551616", "18446744073709551617", "99999999999999999999", "36893488147419103232",
		"1" + strings.Repeat("0", 30), "0" + strings.Repeat("1", 5), strings.Repeat("7", api.MaxText)} {
		wrong(t, s, 0)
	}
	wrong(t, "1 + 01", 4)
	wrong(t, "a[\n00]", 3)
	words(t, "0 0", number("0", 0, 0), number("0", 0, 2))
	words(t, "0x10", number("0", 0, 0), name("x10", 1))
	words(t, "1_000", number("1", 1, 0), name("_000", 1))
	words(t, "1e9", number("1", 1, 0), name("e9", 1))
	wrong(t, "1.5", 1)
	words(t, "+1", sign("+", 0), number("1", 1, 1))
}

// TestTags: P2.2, `@` and digits, the edges of N, and what is none.
func TestTags(t *testing.T) {
	for _, c := range []struct {
		s string
		n uint64
	}{{"@0", 0}, {"@1", 1}, {"@9", 9}, {"@10", 10}, {"@999999", 999999}, {"@1000000", 1000000}} {
		words(t, c.s, tag(c.s, c.n, 0))
		words(t, "\t"+c.s+"x"+c.s+";", tag(c.s, c.n, 1), name("x", 1+len(c.s)), tag(c.s, c.n, 2+len(c.s)), sign(";", 2+2*len(c.s)))
	}
	for _, s := range []string{"@", "@ ", "@ 1", "@a", "@_1", "@-1", "@+1", "@@1", "@;", "@\x00", "@00", "@01", "@007", "@1000001", "@1000010", "@9999999", "@10000000",
		"@9223372036854775808", "@18446744073709551616", "@18446744073709551617", "@" + strings.Repeat("1", 8000)} {
		wrong(t, s, 0)
	}
	wrong(t, "x = 1; @ y = 2;", 7)
	wrong(t, "@1@", 2)
	wrong(t, "a@01", 1)
}

// TestSigns: P2.2, each sign, and the longest one where several begin.
func TestSigns(t *testing.T) {
	for _, s := range signs {
		words(t, s, sign(s, 0))
		words(t, "a"+s+"1", name("a", 0), sign(s, 1), number("1", 1, 1+len(s)))
		words(t, s+" "+s, sign(s, 0), sign(s, 1+len(s)))
	}
	for _, c := range []struct{ s, want string }{
		{"<=", "<="}, {"<<=", "<< ="}, {"<<<", "<< <"}, {"<<<=", "<< <="}, {"<<<<", "<< <<"}, {"<>", "< >"}, {"=<", "= <"}, {">>=", ">> ="}, {">>>=", ">> >="}, {"><", "> <"},
		{"==", "=="}, {"===", "== ="}, {"====", "== =="}, {"=!=", "= !="}, {"!==", "!= ="}, {"!!=", "! !="}, {"!!", "! !"}, {"!~-", "! ~ -"}, {"=!", "= !"},
		{"&&&", "&& &"}, {"&&&&", "&& &&"}, {"|||", "|| |"}, {"|&|", "| & |"}, {"&|", "& |"}, {"^^", "^ ^"}, {"--", "- -"}, {"++", "+ +"}, {"**", "* *"}, {"//", "/ /"}, {"->", "- >"}, {"+=", "+ ="}, {"~=", "~ ="},
		{"()[]{},;", "( ) [ ] { } , ;"}, {"!(", "! ("}, {"=-", "= -"}, {">=-", ">= -"},
	} {
		var want []lex.Token
		at := 0
		for _, s := range strings.Fields(c.want) {
			want = append(want, sign(s, at))
			at += len(s)
		}
		words(t, c.s, want...)
	}
	words(t, "< =", sign("<", 0), sign("=", 2))
}

// TestBytes: P2.2, each byte alone, and behind a word: ErrLex of what begins none.
func TestBytes(t *testing.T) {
	for b := range 256 {
		s := string([]byte{byte(b)})
		switch {
		case strings.Contains(space, s):
			words(t, s)
		case strings.Contains(letters, s):
			words(t, s, name(s, 0))
		case strings.Contains(digits, s):
			words(t, s, number(s, uint64(b-'0'), 0))
		case slices.Contains(signs, s):
			words(t, s, sign(s, 0))
			words(t, "a "+s, name("a", 0), sign(s, 2))
		default:
			wrong(t, s, 0)
			wrong(t, "a "+s, 2)
			wrong(t, "1;"+s+"a", 2)
		}
	}
}

// TestNoWord: P2.2, of several words that may not be the first one is told.
func TestNoWord(t *testing.T) {
	wrong(t, "$ ?", 0)
	wrong(t, "a \"b\"", 2)
	wrong(t, "x = 'c';", 4)
	wrong(t, "// remark #", 10)
	wrong(t, "a := 1", 2)
	wrong(t, "a.b", 1)
	wrong(t, " \t\r\n\v", 4)
	wrong(t, "\f", 0)
	wrong(t, "\ufeffa", 0)
	wrong(t, "a\u00a0b", 1)
	wrong(t, "a × b", 2)
	wrong(t, "a\x80", 1)
	wrong(t, "@01 01 ?", 0)
	wrong(t, "01 @01 ?", 0)
	wrong(t, "ok ? "+strings.Repeat("a", 25), 3)
	wrong(t, strings.Repeat(" ", api.MaxText-1)+"?", api.MaxText-1)
}

// TestText: P2.2, a whole program, with where each word begins.
func TestText(t *testing.T) {
	words(t, "a<=1", name("a", 0), sign("<=", 1), number("1", 1, 3))
	words(t, "")
	words(t, "func main() {\n\tvar x, a[3];\n\t@7 a[0] = read;\r\n}\n",
		key("func", 0), name("main", 5), sign("(", 9), sign(")", 10), sign("{", 12),
		key("var", 15), name("x", 19), sign(",", 20), name("a", 22), sign("[", 23), number("3", 3, 24), sign("]", 25), sign(";", 26),
		tag("@7", 7, 29), name("a", 32), sign("[", 33), number("0", 0, 34), sign("]", 35), sign("=", 37), key("read", 39), sign(";", 43), sign("}", 46))
}

// TestBig: P2.2 and the limits, a text of MaxText bytes is read, one more is
// refused at MaxText.
func TestBig(t *testing.T) {
	for _, piece := range []string{" ", "\n", "a ", "; ", " @1 ", "read ", strings.Repeat("a", 24) + " ", "1 "} {
		full := strings.Repeat(piece, api.MaxText)[:api.MaxText-1] + ";"
		l, at, e := lex.All(full)
		if e != api.OK || at != api.MaxText || len(l) == 0 || l[len(l)-1] != sign(";", api.MaxText-1) {
			t.Errorf("%d bytes of %q: %d words, at %d, error %d", len(full), piece, len(l), at, e)
		}
		hold(t, full+" ", nil, api.MaxText, api.ErrBig)
		hold(t, full+";", nil, api.MaxText, api.ErrBig)
		hold(t, full+strings.Repeat(" ", 100000), nil, api.MaxText, api.ErrBig)
	}
	tight := strings.Repeat(";", api.MaxText)
	if l, at, e := lex.All(tight); len(l) != api.MaxText || at != api.MaxText || e != api.OK {
		t.Errorf("%d signs: %d words, at %d, error %d", len(tight), len(l), at, e)
	}
	hold(t, tight+";", nil, api.MaxText, api.ErrBig)
}

// TestBigAndNoWord: P2, of both errors ErrLex is told, as P2.2 names it first.
func TestBigAndNoWord(t *testing.T) {
	blank := strings.Repeat(" ", api.MaxText+1)
	wrong(t, "?"+blank, 0)
	wrong(t, blank+"?", api.MaxText+1)
	wrong(t, strings.Repeat("a", api.MaxText+1), 0)
	wrong(t, "x "+strings.Repeat("1", api.MaxText), 2)
	wrong(t, blank[1:]+"@", api.MaxText)
}

// shapes says by regular expressions what P2.2 asks of one word.
var shapes = []struct {
	kind  int
	shape *regexp.Regexp
}{
	{lex.Name, regexp.MustCompile(`^[A-Za-z_][A-Za-z0-9_]*`)},
	{lex.Number, regexp.MustCompile(`^[0-9]+`)},
	{lex.Tag, regexp.MustCompile(`^@[0-9]*`)},
	{lex.Sign, regexp.MustCompile(`^(\|\||&&|==|!=|<=|>=|<<|>>|[|^&<>+*/%~!()\[\]{},;=-])`)},
}

// atMost reads digits by big numbers; not so of what P2.2 refuses.
func atMost(s string, most uint64) (uint64, bool) {
	n, ok := new(big.Int).SetString(s, 10)
	if !ok || n.String() != s || n.Cmp(new(big.Int).SetUint64(most)) > 0 {
		return 0, false
	}
	return n.Uint64(), true
}

// reckonWord says which word s begins with; not so, if it may not be.
func reckonWord(s string) (w lex.Token, ok bool) {
	for _, c := range shapes {
		if w.Text = c.shape.FindString(s); w.Text == "" {
			continue
		}
		switch w.Kind, ok = c.kind, true; c.kind {
		case lex.Name:
			if slices.Contains(keys, w.Text) {
				w.Kind = lex.Key
			}
			ok = len(w.Text) <= 24
		case lex.Number:
			w.N, ok = atMost(w.Text, 1<<63)
		case lex.Tag:
			w.N, ok = atMost(w.Text[1:], 1000000)
		}
		return w, ok
	}
	return w, false
}

// reckon says what P2.2 asks of a text that is not too long.
func reckon(s string) (l []lex.Token, at int, e api.Errno) {
	for {
		at = len(s) - len(strings.TrimLeft(s[at:], space))
		if at == len(s) {
			return l, at, api.OK
		}
		w, ok := reckonWord(s[at:])
		if !ok {
			return nil, at, api.ErrLex
		}
		w.At = at
		l = append(l, w)
		at += len(w.Text)
	}
}

// pieces are what made-up texts are made of.
func pieces() []string {
	l := append([]string{" ", "\n", "\t ", "\r\n", "a", "_", "Z9", "x_1", "main", "iffy", "0", "7", "42", "9223372036854775808", "@", "@0", "@12", "@1000000", "@3"}, keys...)
	return append(l, signs...)
}

// made is a made-up text; rarely with a piece that may not be.
func made(r *rand.Rand, length int) string {
	good, bad := pieces(), []string{"$", "\x00", "\xff", "é", "\v", ".", "00", "@", "9223372036854775809", "@1000001", strings.Repeat("q", 25)}
	var b strings.Builder
	for range length {
		if r.Intn(50) == 0 {
			b.WriteString(bad[r.Intn(len(bad))])
		} else {
			b.WriteString(good[r.Intn(len(good))])
		}
		if r.Intn(2) == 0 {
			b.WriteString(" ")
		}
	}
	return b.String()
}

// TestMade: P2.2, made-up texts, against what the expressions tell.
func TestMade(t *testing.T) {
	r := rand.New(rand.NewSource(1))
	right := 0
	for range 20000 {
		s := made(r, r.Intn(30))
		l, at, e := reckon(s)
		if hold(t, s, l, at, e); e == api.OK {
			right++
		}
	}
	if right < 2000 {
		t.Errorf("only %d of the texts were right", right)
	}
	for range 20000 {
		b := make([]byte, r.Intn(12))
		for i := range b {
			b[i] = byte(r.Intn(256))
		}
		l, at, e := reckon(string(b))
		hold(t, string(b), l, at, e)
	}
}

// TestNamesAreWords: P2.1 and P2.2 agree: a text is a name or a key just if it
// is read as one word of that kind.
func TestNamesAreWords(t *testing.T) {
	r := rand.New(rand.NewSource(2))
	for range 20000 {
		s := made(r, r.Intn(4))
		l, _, _ := lex.All(s)
		kind := 0
		if len(l) == 1 && l[0].Text == s {
			kind = l[0].Kind
		}
		if lex.IsName(s) != (kind == lex.Name) || lex.IsKey(s) != (kind == lex.Key) {
			t.Errorf("%q: name %t, key %t, kind %d", s, lex.IsName(s), lex.IsKey(s), kind)
		}
	}
}

// TestWordsPut: P2.3, words put with a space between are the same words.
func TestWordsPut(t *testing.T) {
	r := rand.New(rand.NewSource(3))
	for range 5000 {
		s := made(r, r.Intn(20))
		l, _, e := lex.All(s)
		if e != api.OK {
			continue
		}
		var texts []string
		for _, w := range l {
			texts = append(texts, w.Text)
		}
		for _, between := range []string{" ", "\n", "\t \r"} {
			back, _, e := lex.All(strings.Join(texts, between))
			if e != api.OK || len(back) != len(l) {
				t.Fatalf("%q put is %d words, error %d; it was %d", s, len(back), e, len(l))
			}
			at := 0
			for i, w := range l {
				w.At = at
				if back[i] != w {
					t.Errorf("%q put: word %d is %v, not %v", s, i, back[i], w)
				}
				at += len(w.Text) + len(between)
			}
		}
	}
}

// TestWordsStand: P2.2, Text is what stands at At, and only space is between.
func TestWordsStand(t *testing.T) {
	r := rand.New(rand.NewSource(4))
	for range 5000 {
		s := made(r, r.Intn(20))
		l, _, _ := lex.All(s)
		end := 0
		for _, w := range l {
			if w.Text == "" || !strings.HasPrefix(s[w.At:], w.Text) || strings.Trim(s[end:w.At], space) != "" {
				t.Errorf("%q: %v does not stand there", s, w)
			}
			end = w.At + len(w.Text)
		}
	}
}

// TestAllIsNew: P3, each answer is memory of its own, spare room too.
func TestAllIsNew(t *testing.T) {
	s := "while (a <= 10) { @5 a = a + 1; }"
	want, _, _ := reckon(s)
	kept, _, _ := lex.All(s)
	spoilt, _, _ := lex.All(s)
	spoilt = spoilt[:cap(spoilt)]
	for i := range spoilt {
		spoilt[i] = lex.Token{Kind: 9, Text: "spoilt", N: 9, At: 9}
	}
	if !slices.Equal(kept, want) {
		t.Error("an earlier answer is spoilt")
	}
	words(t, s, want...)
}

// TestSameAnswers: P4, answers hang on arguments alone, whoever else calls.
func TestSameAnswers(t *testing.T) {
	var all sync.WaitGroup
	for k := range 8 {
		all.Go(func() {
			r := rand.New(rand.NewSource(int64(k % 2)))
			for range 200 {
				s := made(r, 10) + " x" + strconv.Itoa(k)
				l, at, e := reckon(s)
				hold(t, s, l, at, e)
			}
		})
	}
	all.Wait()
}
