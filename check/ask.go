package check

import (
	"billhook/api"
	"billhook/tree"
)

// question answers what is wrong, or OK.
type question func() api.Errno

// firstOf asks one by one, up to the first error: what is asked later may have
// no sense where something ahead of it was wrong.
func firstOf(asked ...question) api.Errno {
	for _, ask := range asked {
		if e := ask(); e != api.OK {
			return e
		}
	}
	return api.OK
}

// ofEach asks the same of each of l, up to the first error.
func ofEach[T any](l []T, ask func(x T) api.Errno) api.Errno {
	for _, x := range l {
		if e := ask(x); e != api.OK {
			return e
		}
	}
	return api.OK
}

// when tells e, if something is wrong.
func when(wrong bool, e api.Errno) api.Errno {
	if wrong {
		return e
	}
	return api.OK
}

// ofEachStmt asks of all statements, one that stands in another one behind
// that; looped is whether a While is around them.
func ofEachStmt(l []tree.Stmt, looped bool, ask func(s tree.Stmt, looped bool) api.Errno) api.Errno {
	return ofEach(l, func(s tree.Stmt) api.Errno {
		within := looped || s.Kind == tree.While
		return firstOf(
			func() api.Errno { return ask(s, looped) },
			func() api.Errno { return ofEachStmt(s.Body, within, ask) },
			func() api.Errno { return ofEachStmt(s.Else, within, ask) },
		)
	})
}

// ofEachPlace asks of each Var and Index, from left to right, an Index ahead
// of its Kid.
func ofEachPlace(l []tree.Expr, ask func(e tree.Expr) api.Errno) api.Errno {
	return ofEach(l, func(e tree.Expr) api.Errno {
		return firstOf(
			func() api.Errno {
				if e.Kind == tree.Var || e.Kind == tree.Index {
					return ask(e)
				}
				return api.OK
			},
			func() api.Errno { return ofEachPlace(e.Kids, ask) },
		)
	})
}
