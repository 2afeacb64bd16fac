package source

import (
	"slices"

	"warp/api"
	"warp/names"
	"warp/sync"
)

// nobody owns a mutex that no thread has.
const nobody = -1

// program is what steps need of a program. It is never changed, so that all copies of a state have the same one.
type program struct {
	stmts  []api.Stmt // by their IDs
	bodies []body     // of the threads, as they are declared
	edges  []int      // of each array its first cell, and behind the last one how many cells there are
}

// body is what a thread begins with: so many locals, these statements.
type body struct {
	locals int
	stmts  []int
}

// thread is one that runs.
type thread struct {
	decl    int
	state   api.ThreadState
	locals  []int64
	left    []int // the IDs of what it has still to do, the next one first
	spawned []int
}

// lay makes the state with which a program begins.
func lay(p api.Prog) *State {
	s := &State{prog: &program{stmts: names.Stmts(p), edges: []int{len(p.Vars)}}, cells: make([]int64, Cells(p))}
	copy(s.cells, p.Vars)
	for i, n := range p.Arrays {
		s.prog.edges = append(s.prog.edges, s.prog.edges[i]+n)
	}
	for _, t := range p.Threads {
		s.prog.bodies = append(s.prog.bodies, body{locals: t.Locals, stmts: ids(t.Body)})
	}
	s.parts, _ = sync.New(p.Mutexes, p.Conds, p.Chans...)
	s.threads = []thread{s.prog.begun(p.Main)}
	return s
}

// begun is a thread that did nothing yet.
func (p *program) begun(decl int) thread {
	b := p.bodies[decl]
	t := thread{decl: decl, state: api.ThreadGoes, locals: make([]int64, b.locals), left: b.stmts}
	t.settle()
	return t
}

// ids are those of a block's statements.
func ids(l []api.Stmt) []int {
	var n []int
	for i := range l {
		n = append(n, l[i].ID)
	}
	return n
}

func (s *State) none() bool { return s == nil || s.prog == nil }

func (s *State) there(thread int) bool { return 0 <= thread && thread < s.Threads() }

// each are the numbers of all threads.
func (s *State) each() []int {
	var l []int
	for n := range s.threads {
		l = append(l, n)
	}
	return l
}

// ended tells whether all of these threads are.
func (s *State) ended(threads ...int) bool {
	for _, n := range threads {
		if s.threads[n].state != api.ThreadEnded {
			return false
		}
	}
	return true
}

// can tells whether a thread can go on.
func (s *State) can(n int) bool {
	t := &s.threads[n]
	if s.trapped.Kind == api.RunTrap || len(t.left) == 0 {
		return false
	}
	next := &s.prog.stmts[t.left[0]]
	switch t.state {
	case api.ThreadGoes:
		return s.open(n, next)
	case api.ThreadWakes:
		return s.free(next.Other, nobody)
	}
	return false
}

// open tells whether nothing keeps a thread that goes from a statement.
func (s *State) open(n int, next *api.Stmt) bool {
	switch next.Kind {
	case api.StmtLock:
		return s.free(next.Slot, n)
	case api.StmtSend:
		values, _ := s.parts.Values(next.Slot)
		room, _ := s.parts.Room(next.Slot)
		return len(values) < room
	case api.StmtRecv:
		values, _ := s.parts.Values(next.Slot)
		return len(values) > 0
	case api.StmtJoin:
		return s.ended(s.threads[n].spawned...)
	}
	return true
}

// free tells whether a mutex is nobody's, or else that thread's.
func (s *State) free(mutex, thread int) bool {
	owner, _ := s.parts.Owner(mutex)
	return owner == nobody || owner == thread
}

// copied is the same state, that goes on apart.
func (s *State) copied() State {
	c := *s
	c.cells, c.parts, c.threads = slices.Clone(s.cells), s.parts.Copy(), slices.Clone(s.threads)
	for i := range c.threads {
		t := &c.threads[i]
		t.locals, t.left, t.spawned = slices.Clone(t.locals), slices.Clone(t.left), slices.Clone(t.spawned)
	}
	return c
}

// picked is the thread of those that a pick means. What Go's % leaves of a number below 0 is below 0, too.
func picked(threads []int, pick int) int {
	n := len(threads)
	return threads[(pick%n+n)%n]
}

// first puts statements ahead of what is left to do. What was left is copied: it grows in no memory that another thread began with.
func (t *thread) first(stmts ...int) {
	left := make([]int, len(stmts)+len(t.left))
	copy(left[copy(left, stmts):], t.left)
	t.left = left
}

// settle ends a thread that has nothing left to do, and tells whether it did.
func (t *thread) settle() bool {
	if len(t.left) > 0 {
		return false
	}
	t.state = api.ThreadEnded
	return true
}

func (t *thread) view() api.ThreadView {
	v := api.ThreadView{Decl: t.decl, State: t.state, Locals: slices.Clone(t.locals), Next: -1, Spawned: slices.Clone(t.spawned)}
	if len(t.left) > 0 {
		v.Next = t.left[0]
	}
	return v
}

func (t thread) same(u thread) bool {
	return t.decl == u.decl && t.state == u.state &&
		slices.Equal(t.locals, u.locals) &&
		slices.Equal(t.left, u.left) &&
		slices.Equal(t.spawned, u.spawned)
}
