package syntax

import (
	"iter"
	"slices"

	"warp/api"
)

// within goes over a block's statements and those in them, each with the depth of the block that it stands in.
func within(l []api.Stmt, depth int) iter.Seq2[int, api.Stmt] {
	return func(yield func(int, api.Stmt) bool) {
		for _, s := range l {
			if !yield(depth, s) {
				return
			}
			for _, part := range [2][]api.Stmt{s.Body, s.Else} {
				for deep, x := range within(part, depth+1) {
					if !yield(deep, x) {
						return
					}
				}
			}
		}
	}
}

// fresh copies a list, and the lists that its things hold, as parts hands them to renew. What is to be gone over stands in a list, as a tree that may not be can be deeper than the stack.
func fresh[T any](l []T, parts func(x *T, renew func(*[]T))) []T {
	var todo [][]T
	renew := func(part *[]T) {
		if *part = slices.Clone(*part); len(*part) > 0 {
			todo = append(todo, *part)
		}
	}
	renew(&l)
	for len(todo) > 0 {
		last := todo[len(todo)-1]
		todo = todo[:len(todo)-1]
		for i := range last {
			parts(&last[i], renew)
		}
	}
	return l
}

func freshArgs(l []api.Expr) []api.Expr {
	return fresh(l, func(e *api.Expr, renew func(*[]api.Expr)) { renew(&e.Args) })
}

func freshBlock(l []api.Stmt) []api.Stmt {
	return fresh(l, func(s *api.Stmt, renew func(*[]api.Stmt)) {
		s.Expr.Args, s.Index.Args = freshArgs(s.Expr.Args), freshArgs(s.Index.Args)
		renew(&s.Body)
		renew(&s.Else)
	})
}

func freshStmt(s api.Stmt) api.Stmt { return freshBlock([]api.Stmt{s})[0] }

// steep is how deep trees are compared at one go.
const steep = 1000

// sameBlock compares blocks, but for places and what is found later. What lies too deep is put off, as a tree that may not be can be deeper than the stack.
func sameBlock(a, b []api.Stmt) bool {
	var later []func() bool
	var exprs func(a, b []api.Expr, deep int) bool
	exprs = func(a, b []api.Expr, deep int) bool {
		if deep == steep {
			later = append(later, func() bool { return exprs(a, b, 0) })
			return true
		}
		return alike(a, b, func(x, y *api.Expr) bool {
			return x.Kind == y.Kind && x.Num == y.Num && x.Name == y.Name && x.Op == y.Op && exprs(x.Args, y.Args, deep+1)
		})
	}
	var blocks func(a, b []api.Stmt, deep int) bool
	blocks = func(a, b []api.Stmt, deep int) bool {
		if deep == steep {
			later = append(later, func() bool { return blocks(a, b, 0) })
			return true
		}
		return alike(a, b, func(x, y *api.Stmt) bool {
			return x.Kind == y.Kind && x.Name == y.Name && x.With == y.With &&
				exprs([]api.Expr{x.Expr, x.Index}, []api.Expr{y.Expr, y.Index}, 0) &&
				blocks(x.Body, y.Body, deep+1) && blocks(x.Else, y.Else, deep+1)
		})
	}
	same := blocks(a, b, 0)
	for same && len(later) > 0 {
		next := later[len(later)-1]
		later = later[:len(later)-1]
		same = next()
	}
	return same
}

// alike holds lists against each other, thing by thing, by pointers, as statements are large.
func alike[T any](a, b []T, same func(x, y *T) bool) bool {
	if len(a) != len(b) {
		return false
	}
	for i := range a {
		if !same(&a[i], &b[i]) {
			return false
		}
	}
	return true
}
