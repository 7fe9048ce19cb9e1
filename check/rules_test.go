package check_test

import (
	"math/rand"
	"reflect"
	"slices"
	"strings"
	"sync"
	"testing"

	"billhook/api"
	"billhook/check"
	"billhook/tree"
)

// TestAgain: P5.4, by hand.
func TestAgain(t *testing.T) {
	again(t, parsed(t, sample))
	again(t, parsed(t, "func main() { }"))
	again(t, parsed(t, "func f(a) { var l[64]; l[a] = -(5); } func main() { var x; @1000000 x = f(--1); }"))
}

// TestArgumentsStay: P3, nothing that is handed in is written into, nor what
// stands behind it in its array.
func TestArgumentsStay(t *testing.T) {
	p := parsed(t, sample)
	f := &p.Funcs[0]
	params := append(make([]string, 0, 40), f.Params...)
	vars := append(make([]tree.Decl, 0, 40), f.Vars...)
	body := append(make([]tree.Stmt, 0, 40), f.Body...)
	f.Params, f.Vars, f.Body = params, vars, body
	names := append(make([]string, 0, 9), "i", "k", "none")
	check.Check(p)
	check.Criterion(p, 3, names)
	check.Find(p, "main")
	check.Size(*f, "l")
	if !reflect.DeepEqual(p, parsed(t, sample)) || !slices.Equal(names, []string{"i", "k", "none"}) {
		t.Error("written into")
	}
	if slices.ContainsFunc(params[2:cap(params)], func(s string) bool { return s != "" }) || slices.ContainsFunc(names[3:9], func(s string) bool { return s != "" }) {
		t.Error("written behind names")
	}
	if !reflect.DeepEqual(vars[2:cap(vars)], make([]tree.Decl, cap(vars)-2)) || !reflect.DeepEqual(body[5:cap(body)], make([]tree.Stmt, cap(body)-5)) {
		t.Error("written behind lists")
	}
}

// TestSameAnswers: P4, answers hang on arguments alone, whoever else calls.
func TestSameAnswers(t *testing.T) {
	p, bad := parsed(t, sample), parsed(t, strings.Replace(sample, "@3", "@2", 1))
	var done sync.WaitGroup
	for range 8 {
		done.Go(func() {
			for range 50 {
				hold(t, p, api.OK, -1)
				hold(t, bad, api.ErrTag, 2)
				if check.Criterion(p, 3, []string{"i"}) != api.OK || check.Criterion(p, 4, nil) != api.ErrTag || check.Find(p, "g") != 1 {
					t.Error("another answer")
				}
			}
		})
	}
	done.Wait()
}

func anyName(r *rand.Rand) string {
	l := []string{"", "", "a", "b", "main", "if", "\xff", strings.Repeat("a", 25)}
	return l[r.Intn(len(l))]
}

func anyExpr(r *rand.Rand, deep int) tree.Expr {
	e := tree.Expr{Kind: r.Intn(8) - 1, Op: anyName(r), Name: anyName(r), N: int64(r.Intn(3) - 1)}
	if deep > 0 {
		for range r.Intn(4) {
			e.Kids = append(e.Kids, anyExpr(r, deep-1))
		}
	}
	return e
}

func anyStmts(r *rand.Rand, deep int) (l []tree.Stmt) {
	for range r.Intn(3) {
		s := tree.Stmt{Kind: r.Intn(13) - 1, Tag: r.Intn(4) - 1, Name: anyName(r), Func: anyName(r)}
		for range r.Intn(3) {
			s.E = append(s.E, anyExpr(r, 1))
		}
		if deep > 0 {
			s.Body, s.Else = anyStmts(r, deep-1), anyStmts(r, deep-1)
		}
		l = append(l, s)
	}
	return l
}

// TestWrongTrees: P1, of trees that are not right nothing panics.
func TestWrongTrees(t *testing.T) {
	r := rand.New(rand.NewSource(3))
	for range 4000 {
		p := tree.Prog{}
		for range r.Intn(4) {
			p.Funcs = append(p.Funcs, tree.Func{Name: anyName(r), Params: []string{anyName(r)}, Vars: []tree.Decl{{Name: anyName(r), Size: r.Intn(3) - 1}}, Body: anyStmts(r, 3)})
		}
		e, where := judge(p)
		hold(t, p, e, where)
	}
}

// TestDeep: P1, trees as deep as the limits allow.
func TestDeep(t *testing.T) {
	const deep = 99990
	e := v("x")
	for k := range deep {
		switch k % 3 {
		case 0:
			e = un("-", e)
		case 1:
			e = index("l", e)
		case 2:
			e = bin(num(1), "+", e)
		}
	}
	p := parsed(t, "func main() { var x, l[2]; x = 1; }")
	p.Funcs[0].Body[0].E[0] = e
	hold(t, p, api.OK, -1)
	p.Funcs[0].Vars[0].Name, p.Funcs[0].Body[0].Name = "y", "y"
	hold(t, p, api.ErrName, 0)
	l := block(of(tree.Break))
	for range deep {
		l = block(loop(num(1), l...))
	}
	hold(t, mainOf(l...), api.ErrBig, -1)
	l = block(of(tree.Continue))
	for k := range api.MaxNodes - 1 {
		if k%2 == 0 {
			l = block(loop(num(1), l...))
		} else {
			l = block(branch(num(1), nil, l))
		}
	}
	hold(t, mainOf(l...), api.OK, -1)
}
