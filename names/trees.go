package names

import (
	"iter"

	"warp/api"
	"warp/syntax"
)

// all goes over a program's statements in the order of the text, each with the place of its thread. What is still to be gone over stands in a list, as a program that no call made may be deeper than the stack.
func all(p api.Prog) iter.Seq2[int, *api.Stmt] {
	return func(yield func(int, *api.Stmt) bool) {
		for thread, t := range p.Threads {
			todo := [][]api.Stmt{t.Body}
			for len(todo) > 0 {
				last := len(todo) - 1
				if len(todo[last]) == 0 {
					todo = todo[:last]
					continue
				}
				s := &todo[last][0]
				todo[last] = todo[last][1:]
				if !yield(thread, s) {
					return
				}
				todo = append(todo, s.Else, s.Body)
			}
		}
	}
}

// fresh copies a block. Layer 2 tells each statement as new memory with all that is in it, however deep that is: so one around the block brings its copy along.
func fresh(l []api.Stmt) []api.Stmt {
	var copied []api.Stmt
	around := api.Decl{Body: []api.Stmt{{Body: l}}}
	syntax.Stmts(around)(func(_ int, s api.Stmt) bool {
		copied = s.Body
		return false
	})
	return copied
}
