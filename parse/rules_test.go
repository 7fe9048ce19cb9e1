package parse_test

import (
	"math/rand"
	"reflect"
	"strings"
	"sync"
	"testing"

	"billhook/api"
	"billhook/parse"
	"billhook/tree"
)

const sample = `func f(a, b, c) { var x, y[3], z; x = f(1, -a, y[2]); y[x] = (a + b) * -c; return x; }
func main() { var i; @1 i = read(); while (i > 0) { if (!i) { break; } else { i = 1; i = 2; continue; } i = i - 1; } assert(i == 0); }`

// everyList hands on each list that stands in x, and below.
func everyList(x reflect.Value, on func(l reflect.Value)) {
	switch x.Kind() {
	case reflect.Struct:
		for i := range x.NumField() {
			everyList(x.Field(i), on)
		}
	case reflect.Slice:
		on(x)
		for i := range x.Len() {
			everyList(x.Index(i), on)
		}
	}
}

// TestNewMemory: P3, what is answered is new, spare room too, and no two lists
// of it share any.
func TestNewMemory(t *testing.T) {
	p, _, _ := parse.Parse(sample)
	before := tree.Put(p)
	everyList(reflect.ValueOf(&p).Elem(), func(l reflect.Value) {
		for i := l.Len(); i < l.Cap(); i++ {
			l.Slice(0, l.Cap()).Index(i).SetZero()
		}
	})
	if tree.Put(p) != before {
		t.Error("two lists share room")
	}
	q, _, _ := parse.Parse(sample)
	everyList(reflect.ValueOf(&p).Elem(), func(l reflect.Value) {
		if l.Len() > 0 && l.Index(0).Kind() == reflect.String {
			l.Index(0).SetString("changed")
		}
	})
	p.Funcs[0].Name, p.Funcs[1].Body[0].Tag, p.Funcs[1].Body[1].E[0].Kids[0].Name = "changed", 7, "changed"
	p.Funcs[0].Vars[0].Size, p.Funcs[0].Body[0].E[0].N = 7, 7
	if tree.Put(q) != before {
		t.Error("two answers share room")
	}
	if r, _, _ := parse.Parse(sample); tree.Put(r) != before {
		t.Error("an answer is kept")
	}
}

// TestSameAnswers: P4, answers hang on arguments alone, whoever else calls.
func TestSameAnswers(t *testing.T) {
	want, _, _ := parse.Parse(sample)
	var done sync.WaitGroup
	for range 8 {
		done.Go(func() {
			for range 50 {
				if p, at, e := parse.Parse(sample); !reflect.DeepEqual(p, want) || at != len(sample) || e != api.OK {
					t.Error("another program")
				}
				if parse.Nest(sample) != 4 {
					t.Error("another nest")
				}
				if _, at, e := parse.Expr("((1)"); at != 4 || e != api.ErrParse {
					t.Error("another error")
				}
			}
		})
	}
	done.Wait()
}

// TestRight: P5, what is answered is right, and has nothing where the chapter
// says nothing.
func TestRight(t *testing.T) {
	m := &maker{Rand: rand.New(rand.NewSource(8))}
	for range 500 {
		m.words = nil
		m.putProgram(m.program())
		if p, _, e := parse.Parse(m.text()); e == api.OK && !tree.Right(p) {
			t.Errorf("not right: %v", p)
		}
	}
	if p, _, _ := parse.Parse(sample); !tree.Right(p) || tree.Count(p.Funcs[1].Body) != 9 {
		t.Error("not right")
	}
}

// TestAnyBytes: P1, of texts of any bytes nothing panics, and what is told is
// what the oracle tells.
func TestAnyBytes(t *testing.T) {
	r := rand.New(rand.NewSource(9))
	const likely = "ab01 (){}[]=;,-+<>&|!~@\n"
	for range 3000 {
		s := []byte{}
		for range r.Intn(40) {
			if r.Intn(30) == 0 {
				s = append(s, byte(r.Intn(256)))
			} else {
				s = append(s, likely[r.Intn(len(likely))])
			}
		}
		agree(t, string(s))
	}
	for _, s := range []string{"", "\x00", "\xff\xfe", strings.Repeat("\xff", 100000), strings.Repeat("a", 100000), strings.Repeat("1", 100000), strings.Repeat("(", 100000), strings.Repeat("}", 9000)} {
		_, at, e := parse.Parse(s)
		_, atExpr, eExpr := parse.Expr(s)
		if e == api.OK || eExpr == api.OK || parse.Nest(s) != -1 || at < 0 || at > len(s) || atExpr < 0 || atExpr > len(s) {
			t.Errorf("of %.9q: error %d at %d, %d at %d", s, e, at, eExpr, atExpr)
		}
	}
}

// TestCutOff: P4.3, a program that ends too early, at each byte.
func TestCutOff(t *testing.T) {
	for i := range len(sample) + 1 {
		agree(t, sample[:i])
	}
	p := tree.Put(tree.Prog{Funcs: []tree.Func{{Name: "main", Body: block(branch(v("a"), block(assign("a", v("b"))), block(call("a", "f", num(-1)))))}}})
	for i := range len(p) {
		agree(t, p[:i])
		agree(t, p[i:])
	}
}

// TestPutAgain: P4.5, what is put is parsed as the same; where a 0 had a `-`
// ahead more may be open than were, which the promise excepts.
func TestPutAgain(t *testing.T) {
	again(t, sample)
	for _, s := range []string{"-(5)", "--5", "-(-5)", "- 5", "((a))", "(a + b) + c", "a + (b + c)", "-(a + b)", "~(1)", "!(-1)", "a[(1)]", "a - -9223372036854775808", "(a) * (b + c)", "-(~(!(a)))", "-0", "~-0"} {
		again(t, "func main() { a = "+s+"; }")
	}
	s := "func main() { a = --0; }"
	p, _, _ := parse.Parse(s)
	if put := tree.Put(p); put != "func main() {\n\ta = -(0);\n}\n" || parse.Nest(put) != 3 || parse.Nest(s) != 2 {
		t.Errorf("%q is put as %q", s, put)
	}
	if back, _, e := parse.Parse(tree.Put(p)); e != api.OK || !tree.Same(p, back) {
		t.Errorf("%q: error %d", s, e)
	}
}
