package source

import (
	"fmt"
	"iter"
	"math/big"
	"reflect"
	"slices"
	"strings"
	"testing"

	"warp/api"
)

// The model reads the chapter in another way: a thread is a row of Go's own calls and loops over its body as it stands, which gives way ahead of each statement; what is left to do is no list, but where these calls are. Values are numbers of any size; who has a mutex, who waits, what is in a channel is worked out of all that was done.

// moment is a statement that is next, and whether its thread waits there since it did it once.
type moment struct {
	stmt  *api.Stmt
	waits bool
}

// place is how far a block is gone over, and whether the statement there is done again behind what is in it.
type place struct {
	block []api.Stmt
	at    int
	again bool
}

// ghost is a thread of the model.
type ghost struct {
	number, decl int
	locals       []int64
	spawned      []int
	next         func() (moment, bool)
	stop         func()
	now          moment
	over         bool
	places       []*place
}

// model is a program that goes on.
type model struct {
	prog   api.Prog
	vars   []int64
	arrays [][]int64
	ghosts []*ghost
	did    []api.SyncEvent // all that was done, with the thread that did it behind each
	by     []int
	sent   map[int][]int64
	event  api.Event
	end    api.Outcome
}

func newModel(p api.Prog) *model {
	m := &model{prog: p, vars: slices.Clone(p.Vars), sent: map[int][]int64{}}
	for _, n := range p.Arrays {
		m.arrays = append(m.arrays, make([]int64, n))
	}
	m.begin(p.Main)
	return m
}

// close lets all threads go.
func (m *model) close() {
	for _, g := range m.ghosts {
		g.stop()
	}
}

func (m *model) begin(decl int) int {
	g := &ghost{number: len(m.ghosts), decl: decl, locals: make([]int64, m.prog.Threads[decl].Locals)}
	m.ghosts = append(m.ghosts, g)
	g.next, g.stop = iter.Pull(func(yield func(moment) bool) { m.block(g, m.prog.Threads[decl].Body, yield) })
	g.move()
	return g.number
}

// move goes on to the next statement.
func (g *ghost) move() {
	now, is := g.next()
	g.now, g.over = now, !is
}

// block goes over a block; it tells false where all is to be left.
func (m *model) block(g *ghost, l []api.Stmt, yield func(moment) bool) bool {
	p := &place{block: l}
	g.places = append(g.places, p)
	for ; p.at < len(l); p.at++ {
		p.again = true
		if !yield(moment{stmt: &l[p.at]}) || !m.stmt(g, &l[p.at], p, yield) {
			return false
		}
	}
	g.places = g.places[:len(g.places)-1]
	return true
}

// left are the IDs of what a thread has still to do: of the innermost block all from where it stands, of those around it what is behind, and a while again.
func (g *ghost) left() []int {
	var l []int
	for _, p := range slices.Backward(g.places) {
		for i := p.at; i < len(p.block); i++ {
			if i > p.at || p.again {
				l = append(l, p.block[i].ID)
			}
		}
	}
	return l
}

func (m *model) stmt(g *ghost, s *api.Stmt, p *place, yield func(moment) bool) bool {
	switch s.Kind {
	case api.StmtLet, api.StmtSet:
		m.store(g, s.Slot, s.Local, m.eval(g, s.Expr))
	case api.StmtPut:
		i := m.eval(g, s.Index)
		v := m.eval(g, s.Expr)
		cells := m.array(s.Slot, i)
		cells[i] = v
		m.access(len(m.vars)+m.ahead(s.Slot)+int(i), true, v)
	case api.StmtPrint:
		m.event.Out = m.eval(g, s.Expr)
		m.event.Told = true
	case api.StmtIf:
		p.again = false
		if m.event.Value = m.eval(g, s.Expr); m.event.Value == 0 {
			return m.block(g, s.Else, yield)
		}
		return m.block(g, s.Body, yield)
	case api.StmtWhile:
		for {
			if m.event.Value = m.eval(g, s.Expr); m.event.Value == 0 {
				return true
			}
			if !m.block(g, s.Body, yield) || !yield(moment{stmt: s}) {
				return false
			}
		}
	default:
		return m.order(g, s, yield)
	}
	return true
}

// order does the statements that order threads.
func (m *model) order(g *ghost, s *api.Stmt, yield func(moment) bool) bool {
	switch s.Kind {
	case api.StmtLock:
		if m.owner(s.Slot) >= 0 {
			panic(api.TrapOwner)
		}
		m.note(g, api.SyncLock, s.Slot, 0)
	case api.StmtUnlock:
		m.unlock(g, s.Slot)
	case api.StmtWait:
		m.unlock(g, s.Other)
		if !yield(moment{stmt: s, waits: true}) {
			return false
		}
		m.event.Woke = true
		m.note(g, api.SyncLock, s.Other, 0)
	case api.StmtSignal, api.StmtAll:
		for i, n := range m.waiting(s.Slot) {
			if i == 0 || s.Kind == api.StmtAll {
				m.note(g, api.SyncSignal, s.Slot, n)
			}
		}
	case api.StmtSend:
		v := m.eval(g, s.Expr)
		m.note(g, api.SyncSend, s.Slot, len(m.sent[s.Slot]))
		m.sent[s.Slot] = append(m.sent[s.Slot], v)
	case api.StmtRecv:
		number := m.count(api.SyncRecv, s.Slot)
		m.note(g, api.SyncRecv, s.Slot, number)
		m.store(g, s.Other, s.Local, m.sent[s.Slot][number])
	case api.StmtSpawn:
		if len(m.ghosts) == 8 {
			panic(api.TrapThreads)
		}
		g.spawned = append(g.spawned, m.begin(s.Slot))
		m.note(g, api.SyncSpawn, 0, g.spawned[len(g.spawned)-1])
	case api.StmtJoin:
		for _, n := range g.spawned {
			m.note(g, api.SyncJoin, 0, n)
		}
	}
	return true
}

func (m *model) unlock(g *ghost, mutex int) {
	if m.owner(mutex) != g.number {
		panic(api.TrapOwner)
	}
	m.note(g, api.SyncUnlock, mutex, 0)
}

func (m *model) note(g *ghost, kind api.SyncKind, slot, other int) {
	ev := api.SyncEvent{Kind: kind, Slot: slot, Other: other}
	m.did, m.by = append(m.did, ev), append(m.by, g.number)
	m.event.Syncs = append(m.event.Syncs, ev)
}

func (m *model) access(cell int, write bool, v int64) {
	m.event.Accesses = append(m.event.Accesses, api.Access{Cell: cell, Write: write, Value: v})
}

func (m *model) store(g *ghost, slot int, local bool, v int64) {
	if local {
		g.locals[slot] = v
		return
	}
	m.vars[slot] = v
	m.access(slot, true, v)
}

// owner is who locked it last, if nobody unlocked it since.
func (m *model) owner(mutex int) int {
	for i, ev := range slices.Backward(m.did) {
		if ev.Slot == mutex && ev.Kind == api.SyncLock {
			return m.by[i]
		}
		if ev.Slot == mutex && ev.Kind == api.SyncUnlock {
			return -1
		}
	}
	return -1
}

// waiting are the threads that stand behind the first half of a wait and were not signalled since, by when they came.
func (m *model) waiting(cond int) []int {
	came := map[int]int{}
	for _, g := range m.ghosts {
		if !g.now.waits || g.now.stmt.Slot != cond {
			continue
		}
		for i, ev := range m.did {
			if ev.Kind == api.SyncUnlock && m.by[i] == g.number {
				came[g.number] = i + 1
			}
			if ev.Kind == api.SyncSignal && ev.Other == g.number {
				delete(came, g.number)
			}
		}
	}
	var l []int
	for n := range came {
		l = append(l, n)
	}
	slices.SortFunc(l, func(a, b int) int { return came[a] - came[b] })
	return l
}

func (m *model) count(kind api.SyncKind, slot int) int {
	n := 0
	for _, ev := range m.did {
		if ev.Kind == kind && ev.Slot == slot {
			n++
		}
	}
	return n
}

// ahead is how many cells are in the arrays ahead of one.
func (m *model) ahead(array int) int { return len(slices.Concat(m.arrays[:array]...)) }

func (m *model) array(slot int, index int64) []int64 {
	l := m.arrays[slot]
	if index < 0 || int(index) >= len(l) {
		panic(api.TrapIndex)
	}
	return l
}

// eval works out in numbers of any size.
func (m *model) eval(g *ghost, e api.Expr) int64 {
	switch {
	case e.Kind == api.ExprNum:
		return e.Num
	case e.Kind == api.ExprName && e.Local:
		return g.locals[e.Slot]
	case e.Kind == api.ExprName:
		m.access(e.Slot, false, m.vars[e.Slot])
		return m.vars[e.Slot]
	case e.Kind == api.ExprCell:
		i := m.eval(g, e.Args[0])
		v := m.array(e.Slot, i)[i]
		m.access(len(m.vars)+m.ahead(e.Slot)+int(i), false, v)
		return v
	case e.Op == api.OpOr:
		if m.eval(g, e.Args[0]) != 0 || m.eval(g, e.Args[1]) != 0 {
			return 1
		}
		return 0
	case e.Op == api.OpAnd:
		if m.eval(g, e.Args[0]) != 0 && m.eval(g, e.Args[1]) != 0 {
			return 1
		}
		return 0
	}
	var l []*big.Int
	for _, x := range e.Args {
		l = append(l, big.NewInt(m.eval(g, x)))
	}
	return modelMade(e, l)
}

// modelMade is what an operator makes of numbers.
func modelMade(e api.Expr, l []*big.Int) int64 {
	zero, z := new(big.Int), new(big.Int)
	truth := func(is bool) {
		if is {
			z.SetInt64(1)
		}
	}
	switch {
	case e.Kind == api.ExprNeg:
		z.Neg(l[0])
	case e.Kind == api.ExprNot:
		truth(l[0].Cmp(zero) == 0)
	case (e.Op == api.OpDiv || e.Op == api.OpMod) && l[1].Cmp(zero) == 0:
		panic(api.TrapZero)
	default:
		map[api.Op]func(){
			api.OpEq:  func() { truth(l[0].Cmp(l[1]) == 0) },
			api.OpNe:  func() { truth(l[0].Cmp(l[1]) != 0) },
			api.OpLt:  func() { truth(l[0].Cmp(l[1]) < 0) },
			api.OpLe:  func() { truth(l[0].Cmp(l[1]) < 1) },
			api.OpAdd: func() { z.Add(l[0], l[1]) },
			api.OpSub: func() { z.Sub(l[0], l[1]) },
			api.OpMul: func() { z.Mul(l[0], l[1]) },
			api.OpDiv: func() { z.Quo(l[0], l[1]) },
			api.OpMod: func() { z.Rem(l[0], l[1]) },
		}[e.Op]()
	}
	if z.Cmp(big.NewInt(-1<<31)) < 0 || z.Cmp(big.NewInt(1<<31-1)) > 0 {
		panic(api.TrapRange)
	}
	return z.Int64()
}

// state is how a thread is.
func (m *model) state(g *ghost) api.ThreadState {
	switch {
	case g.over:
		return api.ThreadEnded
	case !g.now.waits:
		return api.ThreadGoes
	case slices.Contains(m.waiting(g.now.stmt.Slot), g.number):
		return api.ThreadWaits
	}
	return api.ThreadWakes
}

// can tells whether a thread can go on.
func (m *model) can(g *ghost) bool {
	s := g.now.stmt
	switch m.state(g) {
	case api.ThreadEnded, api.ThreadWaits:
		return false
	case api.ThreadWakes:
		return m.owner(s.Other) < 0
	}
	in := func() int { return len(m.sent[s.Slot]) - m.count(api.SyncRecv, s.Slot) }
	free := map[api.StmtKind]func() bool{
		api.StmtLock: func() bool { return m.owner(s.Slot) < 0 || m.owner(s.Slot) == g.number },
		api.StmtSend: func() bool { return in() < m.prog.Chans[s.Slot] },
		api.StmtRecv: func() bool { return in() > 0 },
		api.StmtJoin: func() bool {
			return !slices.ContainsFunc(g.spawned, func(n int) bool { return !m.ghosts[n].over })
		},
	}[s.Kind]
	return free == nil || free()
}

func (m *model) all() []int {
	var l []int
	for _, g := range m.ghosts {
		if m.end.Kind != api.RunTrap && m.can(g) {
			l = append(l, g.number)
		}
	}
	return l
}

func (m *model) outcome() api.Outcome {
	switch {
	case m.end.Kind == api.RunTrap:
		return m.end
	case len(m.all()) > 0:
		return goes
	case slices.ContainsFunc(m.ghosts, func(g *ghost) bool { return !g.over }):
		return stuck
	}
	return done
}

// do does the step of a thread that can go on.
func (m *model) do(n int) (ev api.Event) {
	g := m.ghosts[n]
	m.event = api.Event{Thread: n, Stmt: g.now.stmt.ID}
	defer func() {
		if trap := recover(); trap != nil {
			m.event.Trap = trap.(api.Trap)
			m.end = trapped(m.event.Trap, n, m.event.Stmt)
		}
		ev = m.event
	}()
	g.move()
	if g.over {
		m.event.Syncs = append(m.event.Syncs, api.SyncEvent{Kind: api.SyncEnd})
	}
	return m.event
}

// stands is the same text as a state's, worked out here, and behind it what each thread has still to do.
func (m *model) stands() (text, left string) {
	var b strings.Builder
	fmt.Fprintf(&b, "%v cells %v can %v\n", m.outcome(), slices.Concat(append([][]int64{m.vars}, m.arrays...)...), m.all())
	for n, g := range m.ghosts {
		v := api.ThreadView{Decl: g.decl, State: m.state(g), Locals: g.locals, Next: -1, Spawned: g.spawned}
		if !g.over {
			v.Next = g.now.stmt.ID
		}
		fmt.Fprintf(&b, "%d: %v 0\n", n, v)
		left += fmt.Sprint(g.left())
	}
	for i := range m.prog.Mutexes {
		fmt.Fprintf(&b, "owner %d\n", m.owner(i))
	}
	for i := range m.prog.Conds {
		fmt.Fprintf(&b, "waits %v\n", m.waiting(i))
	}
	for i, room := range m.prog.Chans {
		fmt.Fprintf(&b, "values %v for %d\n", m.sent[i][m.count(api.SyncRecv, i):], room)
	}
	return b.String(), left
}

// both is a state beside its model.
type both struct {
	t *testing.T
	s *State
	m *model
}

func begin(t *testing.T, p api.Prog) *both {
	b := &both{t, mustStart(t, p), newModel(p)}
	t.Helper()
	b.check()
	return b
}

// check holds all that there is against the model.
func (b *both) check() {
	b.t.Helper()
	got := stands(b.s)
	if want, _ := b.m.stands(); got != want {
		b.t.Fatalf("got\n%s\nwant\n%s", got, want)
	}
}

// do does a step of a thread in both, by a pick or by its number.
func (b *both) do(pick int, byPick bool) api.Event {
	b.t.Helper()
	can := b.m.all()
	n := can[pick%len(can)]
	want := b.m.do(n)
	var got api.Event
	var fault api.Errno
	if byPick {
		got, fault = b.s.Step(pick)
	} else {
		got, fault = b.s.Do(n)
	}
	if fault != api.OK || !reflect.DeepEqual(got, want) {
		b.t.Fatalf("got %+v, error %d\nwant %+v", got, fault, want)
	}
	b.check()
	return got
}

// refused asks for a step of each thread that can't go on, and of one that is not there.
func (b *both) refused() {
	b.t.Helper()
	can := b.m.all()
	for n := range len(b.m.ghosts) + 1 {
		fault := api.ErrBlocked
		switch {
		case n == len(b.m.ghosts):
			fault = api.ErrArg
		case len(can) == 0:
			fault = api.ErrEnd
		case slices.Contains(can, n):
			continue
		}
		ev, got := b.s.Do(n)
		if got != fault || !reflect.DeepEqual(ev, api.Event{}) {
			b.t.Fatalf("Do(%d): %+v, error %d, want %d", n, ev, got, fault)
		}
	}
	if len(can) == 0 {
		if ev, fault := b.s.Step(3); fault != api.ErrEnd || !reflect.DeepEqual(ev, api.Event{}) {
			b.t.Fatalf("Step at the end: %+v, error %d", ev, fault)
		}
	}
	b.check()
}

// maker makes programs' texts.
type maker struct {
	chooser
	locals int
}

// pick tells one of these.
func (c *chooser) pick(l ...string) string { return l[c.below(len(l))] }

func (m *maker) local() string { return fmt.Sprint("k", m.below(m.locals)) }

// expr makes an expression: of small numbers mostly, so that loops end and indices are places.
func (m *maker) expr(depth int) string {
	if depth == 0 || m.rarely(3) {
		l := []string{"0", "1", "2", "x", "y", "z", "x", "1"}
		if m.locals > 0 {
			l = append(l, m.local(), m.local())
		}
		if m.rarely(25) {
			l = []string{"2147483647", "65536", "3", "46341"}
		}
		return m.pick(l...)
	}
	e, f := m.expr(depth-1), m.expr(depth-1)
	switch m.below(8) {
	case 0:
		return m.pick("-", "!", "!") + "(" + e + ")"
	case 1:
		return m.pick("a", "b") + "[" + m.pick(e, "0", "1", "x % 2") + "]"
	}
	return "(" + e + ") " + m.pick("||", "&&", "==", "!=", "<", "<=", "+", "-", "*", "+", "-", "<", "*", "<=", "==", "||", "/", "%") + " (" + f + ")"
}

// stmt makes one or a few statements: of those that order threads, most in rows that make sense.
func (m *maker) stmt(depth int) string {
	mutex, cond, queue := m.pick("l", "m"), m.pick("c", "d"), m.pick("p", "q")
	switch n := m.below(24); {
	case n < 3 && depth > 0:
		return "if " + m.expr(2) + " { " + m.block(depth-1) + " } " + m.pick("", "else { "+m.block(depth-1)+" } ")
	case n < 5 && depth > 0:
		return m.pick("while x < 3 { x = x + 1; ", "while "+m.expr(2)+" { ") + m.block(depth-1) + " } "
	case n < 7:
		return "lock " + mutex + "; " + m.block(0) + m.pick("", "wait "+cond+" "+mutex+"; ", "while x < 2 { wait "+cond+" "+mutex+"; } ") + "unlock " + mutex + "; "
	case n < 8:
		return m.pick("lock "+mutex, "unlock "+mutex, "wait "+cond+" "+mutex, "print 2147483647 + "+m.expr(1)) + "; "
	case n < 11:
		return m.pick("signal ", "all ") + cond + "; "
	case n < 13:
		return "send " + queue + " " + m.expr(1) + "; " + m.pick("", "", "recv "+queue+" "+m.target()+"; ")
	case n < 15:
		return "recv " + queue + " " + m.target() + "; "
	case n < 17:
		return m.pick("spawn t; ", "spawn e; ", "spawn main; ", "join; ", "spawn u; join; ")
	case n < 19:
		return "print " + m.expr(3) + "; "
	case n < 21:
		return m.pick("a", "b") + "[" + m.pick("0", "1", m.expr(1)) + "] = " + m.expr(2) + "; "
	}
	return m.target() + " = " + m.expr(2) + "; "
}

func (m *maker) target() string {
	if m.locals > 0 && m.rarely(2) {
		return m.local()
	}
	return m.pick("x", "y", "z")
}

func (m *maker) block(depth int) string {
	text := ""
	for range m.below(4) {
		text += m.stmt(depth)
	}
	return text
}

func (m *maker) body() string {
	m.locals = 0
	text := ""
	for range m.below(3) {
		e := m.expr(2)
		text += fmt.Sprint("let k", m.locals, " = ", e, "; ")
		m.locals++
	}
	return text + m.block(3) + m.block(2)
}

// program makes a text of four threads; one of them is empty.
func (m *maker) program() string {
	threads := []string{"main { spawn t; " + m.pick("spawn u; ", "") + m.body() + "}", "t { " + m.body() + "}", "u { " + m.body() + "}", "e { }"}
	if m.rarely(2) { // with those that wait, and one that wakes them, as else they seldom meet
		threads[0] = "main { spawn t; spawn u; spawn t; join; " + m.body() + "}"
		threads[1] = "t { lock m; wait " + m.pick("c", "d") + " m; unlock m; " + m.body() + "}"
		threads[2] = "u { while z < 2 { " + m.pick("signal", "all") + " c; z = z + 1; signal d; } }"
	}
	text := "var x = 0; array a 3; var y = 1; mutex l; mutex m; cond c; chan p 1; cond d; chan q 3; array b 2; var z = -2; "
	for len(threads) > 0 {
		i := m.below(len(threads))
		text += "thread " + threads[i] + " "
		threads = slices.Delete(threads, i, i+1)
	}
	return text
}

// P5.1, P5.2: many programs by many picks, step by step against the model.
func TestAgainstModel(t *testing.T) {
	m := maker{chooser: chooser{88172645463325252}}
	ends, seen := map[string]int{}, map[string]int{}
	for i := range 3000 {
		p := mustFind(t, m.program())
		b := begin(t, p)
		b.refused()
		for n := 0; n < 80 && b.m.outcome() == goes; n++ {
			ev := b.do(m.below(1000), n%2 == i%2)
			count(seen, p, ev)
			b.refused()
			if n%16 == 0 {
				b.s = b.s.Copy()
			}
		}
		ends[fmt.Sprint(b.s.Outcome().Kind, b.s.Outcome().Trap)]++
		b.m.close()
	}
	for _, end := range []string{"1 0", "2 0", "3 0", "4 1", "4 2", "4 3", "4 4", "4 5"} {
		if ends[end] < 50 {
			t.Errorf("only %d runs that end with %s: %v", ends[end], end, ends)
		}
	}
	for kind := api.StmtLet; kind <= api.StmtPrint; kind++ {
		if seen[fmt.Sprint("stmt ", kind)] < 500 {
			t.Errorf("only %d steps of kind %d", seen[fmt.Sprint("stmt ", kind)], kind)
		}
	}
	for kind := api.SyncLock; kind <= api.SyncEnd; kind++ {
		if seen[syncNames[kind]] < 300 {
			t.Errorf("only %d times %s", seen[syncNames[kind]], syncNames[kind])
		}
	}
	if seen["woke"] < 100 {
		t.Error("only", seen["woke"], "that wake")
	}
}

// count notes what a step was.
func count(seen map[string]int, p api.Prog, ev api.Event) {
	var block func(l []api.Stmt)
	block = func(l []api.Stmt) {
		for i := range l {
			if l[i].ID == ev.Stmt {
				seen[fmt.Sprint("stmt ", l[i].Kind)]++
			}
			block(l[i].Body)
			block(l[i].Else)
		}
	}
	for _, t := range p.Threads {
		block(t.Body)
	}
	for _, o := range ev.Syncs {
		seen[syncNames[o.Kind]]++
	}
	if ev.Woke {
		seen["woke"]++
	}
}

// P5.2: of many states of one program, Same tells just those the same that tell the same and have the same left to do.
func TestSameAgainstModel(t *testing.T) {
	m := maker{chooser: chooser{362436069}}
	same, other := 0, 0
	for range 150 {
		p := mustFind(t, m.program())
		var states []*State
		var texts []string
		for range 4 {
			b := begin(t, p)
			for n := 0; n < 9 && b.m.outcome() == goes; n++ {
				b.do(m.below(1000), true)
				text, left := b.m.stands()
				sent := ""
				for q := range p.Chans {
					sent += fmt.Sprint(len(b.m.sent[q]), " ")
				}
				states, texts = append(states, b.s.Copy()), append(texts, text+left+sent)
			}
			b.m.close()
		}
		for i := range states {
			for j := range states {
				if Same(states[i], states[j]) != (texts[i] == texts[j]) {
					t.Fatalf("Same is %v:\n%s\n%s", !(texts[i] == texts[j]), texts[i], texts[j])
				}
				if i != j && texts[i] == texts[j] {
					same++
				} else {
					other++
				}
			}
		}
	}
	if same < 1000 || other < 1000 {
		t.Errorf("%d pairs the same, %d others", same, other)
	}
}

// P5.1, P5.2: two threads of each two of some statements, by all picks.
func TestAllShortPrograms(t *testing.T) {
	words := []string{"lock m; ", "unlock m; ", "wait c m; ", "signal c; ", "send q x; ", "recv q x; ", "while x { x = 0; } ", "join; "}
	n, runs := len(words), 0
	for i := range n * n * n * n {
		main, other := words[i%n]+words[i/n%n], words[i/n/n%n]+words[i/n/n/n]
		runs += allRuns(t, mustFind(t, "var x = 1; mutex m; cond c; chan q 1; thread main { spawn t; "+main+"} thread t { "+other+"}"))
	}
	if runs < 20000 {
		t.Error("only", runs, "runs")
	}
}

// allRuns does all runs of a program, each from its beginning on, as calls can't be copied, and tells how many there are.
func allRuns(t *testing.T, p api.Prog) int {
	t.Helper()
	runs := 0
	for picks := []int{}; picks != nil; runs++ {
		b := begin(t, p)
		var could []int
		for n := 0; b.m.outcome() == goes; n++ {
			if n == len(picks) {
				picks = append(picks, 0)
			}
			could = append(could, len(b.m.all()))
			b.do(picks[n], runs%2 == 0)
		}
		b.m.close()
		last := len(picks) - 1
		for last >= 0 && picks[last] == could[last]-1 {
			last--
		}
		if last < 0 {
			return runs + 1
		}
		picks = picks[:last+1]
		picks[last]++
	}
	return runs
}
