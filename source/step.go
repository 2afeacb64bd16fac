package source

import "warp/api"

// step is a step under way: the copy of a state on which it is done, and what it is so far.
type step struct {
	State
	event api.Event
}

// goOn does the step of a thread that can go on. Behind a trap the copy on which it was done is dropped, so that all else is as it was; what orders is told just where it was done to the end.
func (s *State) goOn(n int) (event api.Event) {
	d := step{State: s.copied(), event: api.Event{Thread: n}}
	defer func() {
		switch gone := recover().(type) {
		case nil:
			*s = d.State
		case api.Trap:
			d.event.Trap = gone
			s.trapped = api.Outcome{Kind: api.RunTrap, Trap: gone, Thread: n, Stmt: d.event.Stmt}
		default:
			panic(gone)
		}
		event = d.event
	}()
	d.do()
	return event
}

// does is what statements of each kind do. Ahead of it the statement is taken from what is left to do.
func does() map[api.StmtKind]func(*step, *api.Stmt) {
	return map[api.StmtKind]func(*step, *api.Stmt){
		api.StmtLet:    (*step).set,
		api.StmtSet:    (*step).set,
		api.StmtPut:    (*step).put,
		api.StmtIf:     (*step).choose,
		api.StmtWhile:  (*step).again,
		api.StmtLock:   (*step).lock,
		api.StmtUnlock: (*step).unlock,
		api.StmtWait:   (*step).wait,
		api.StmtSignal: (*step).signal,
		api.StmtAll:    (*step).all,
		api.StmtSend:   (*step).send,
		api.StmtRecv:   (*step).recv,
		api.StmtSpawn:  (*step).spawn,
		api.StmtJoin:   (*step).join,
		api.StmtPrint:  (*step).print,
	}
}

func (d *step) do() {
	t := d.self()
	s := &d.prog.stmts[t.left[0]]
	d.event.Stmt = s.ID
	t.left = t.left[1:]
	does()[s.Kind](d, s)
	if d.self().settle() {
		d.order(api.SyncEnd, 0, 0)
	}
}

// self is the thread whose step it is. A spawn may move it.
func (d *step) self() *thread { return &d.threads[d.event.Thread] }

// order tells something that orders threads.
func (d *step) order(kind api.SyncKind, slot, other int) {
	d.event.Syncs = append(d.event.Syncs, api.SyncEvent{Kind: kind, Slot: slot, Other: other})
}

func (d *step) set(s *api.Stmt) { d.store(s.Slot, s.Local, d.worth(&s.Expr)) }

func (d *step) put(s *api.Stmt) {
	index := d.worth(&s.Index)
	v := d.worth(&s.Expr)
	d.write(d.place(s.Slot, index), v)
}

func (d *step) choose(s *api.Stmt) {
	d.event.Value = d.worth(&s.Expr)
	if d.event.Value != 0 {
		d.self().first(ids(s.Body)...)
	} else {
		d.self().first(ids(s.Else)...)
	}
}

func (d *step) again(s *api.Stmt) {
	d.event.Value = d.worth(&s.Expr)
	if d.event.Value != 0 {
		d.self().first(append(ids(s.Body), s.ID)...)
	}
}

func (d *step) lock(s *api.Stmt) { d.take(s.Slot) }

func (d *step) unlock(s *api.Stmt) { d.leave(s.Slot) }

// wait is the statement of two steps: the second one is that of the thread as it wakes.
func (d *step) wait(s *api.Stmt) {
	t := d.self()
	if t.state == api.ThreadWakes {
		d.event.Woke = true
		t.state = api.ThreadGoes
		d.take(s.Other)
		return
	}
	d.leave(s.Other)
	d.parts.Wait(s.Slot, d.event.Thread)
	t.state = api.ThreadWaits
	t.first(s.ID)
}

// take makes a mutex the thread's, which is nobody's or the thread's.
func (d *step) take(mutex int) {
	if taken, _ := d.parts.Lock(mutex, d.event.Thread); !taken {
		panic(api.TrapOwner)
	}
	d.order(api.SyncLock, mutex, 0)
}

// leave makes a mutex nobody's.
func (d *step) leave(mutex int) {
	if d.parts.Unlock(mutex, d.event.Thread) != api.OK {
		panic(api.TrapOwner)
	}
	d.order(api.SyncUnlock, mutex, 0)
}

func (d *step) signal(s *api.Stmt) {
	if t, is, _ := d.parts.Signal(s.Slot); is {
		d.wake(s.Slot, t)
	}
}

func (d *step) all(s *api.Stmt) {
	woken, _ := d.parts.All(s.Slot)
	d.wake(s.Slot, woken...)
}

// wake is done to threads that wait no more.
func (d *step) wake(cond int, threads ...int) {
	for _, t := range threads {
		d.threads[t].state = api.ThreadWakes
		d.order(api.SyncSignal, cond, t)
	}
}

func (d *step) send(s *api.Stmt) {
	number, _, _ := d.parts.Send(s.Slot, d.worth(&s.Expr))
	d.order(api.SyncSend, s.Slot, number)
}

func (d *step) recv(s *api.Stmt) {
	v, number, _, _ := d.parts.Recv(s.Slot)
	d.store(s.Other, s.Local, v)
	d.order(api.SyncRecv, s.Slot, number)
}

func (d *step) spawn(s *api.Stmt) {
	n := len(d.threads)
	if n == api.MaxThreads {
		panic(api.TrapThreads)
	}
	d.threads = append(d.threads, d.prog.begun(s.Slot))
	t := d.self()
	t.spawned = append(t.spawned, n)
	d.order(api.SyncSpawn, 0, n)
}

// join does nothing, as the thread can't go on ahead of it till all is done.
func (d *step) join(*api.Stmt) {
	for _, n := range d.self().spawned {
		d.order(api.SyncJoin, 0, n)
	}
}

func (d *step) print(s *api.Stmt) {
	d.event.Out = d.worth(&s.Expr)
	d.event.Told = true
}
