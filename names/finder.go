package names

import (
	"slices"

	"warp/api"
)

// thing is what a name is. A local is as a variable, since wherever one may stand the other may too.
type thing struct {
	kind  api.DeclKind
	slot  int
	local bool
}

// want is what a statement's Name and With must be; DeclNone, if nothing is looked for.
type want struct{ name, with api.DeclKind }

// wants are those of the kinds that name what is there already; a let's name must not be.
func wants() map[api.StmtKind]want {
	return map[api.StmtKind]want{
		api.StmtSet:    {name: api.DeclVar},
		api.StmtPut:    {name: api.DeclArray},
		api.StmtLock:   {name: api.DeclMutex},
		api.StmtUnlock: {name: api.DeclMutex},
		api.StmtWait:   {name: api.DeclCond, with: api.DeclMutex},
		api.StmtSignal: {name: api.DeclCond},
		api.StmtAll:    {name: api.DeclCond},
		api.StmtSend:   {name: api.DeclChan},
		api.StmtRecv:   {name: api.DeclChan, with: api.DeclVar},
		api.StmtSpawn:  {name: api.DeclThread},
	}
}

// flaw is what may not be, and where.
type flaw struct {
	api.Pos
	api.Errno
}

// finder is a program as far as its names are found.
type finder struct {
	prog   api.Prog
	names  map[string]thing
	wants  map[api.StmtKind]want
	place  api.Pos
	cells  int
	locals []string // those that are there now, by their slots
	most   int      // as many as were ever there at once
}

// refuse gives up at the declaration, the statement that is looked at.
func (f *finder) refuse(fault api.Errno) { panic(flaw{f.place, fault}) }

func (f *finder) declarations(l []api.Decl) {
	for _, d := range l {
		f.place = d.Pos
		f.free(d.Name)
		if !f.bounded(d) || len(f.names) == api.MaxNames {
			f.refuse(api.ErrBound)
		}
		f.names[d.Name] = thing{kind: d.Kind, slot: f.lay(d)}
	}
}

// free refuses a name that is there.
func (f *finder) free(name string) {
	if _, is := f.names[name]; is {
		f.refuse(api.ErrTwice)
	}
}

// bounded tells whether a number may be. Of a variable layer 2 has looked at it.
func (f *finder) bounded(d api.Decl) bool {
	switch d.Kind {
	case api.DeclArray:
		return 1 <= d.Num && d.Num <= int64(api.MaxCells-f.cells)
	case api.DeclChan:
		return 1 <= d.Num && d.Num <= api.MaxRoom
	}
	return true
}

// lay puts a declaration behind those of its kind, and tells its slot.
func (f *finder) lay(d api.Decl) int {
	p := &f.prog
	switch d.Kind {
	case api.DeclVar:
		p.Vars = append(p.Vars, d.Num)
		return behind(&p.Names.Vars, d.Name)
	case api.DeclArray:
		f.cells += int(d.Num)
		p.Arrays = append(p.Arrays, int(d.Num))
		return behind(&p.Names.Arrays, d.Name)
	case api.DeclMutex:
		p.Mutexes++
		return behind(&p.Names.Mutexes, d.Name)
	case api.DeclCond:
		p.Conds++
		return behind(&p.Names.Conds, d.Name)
	case api.DeclChan:
		p.Chans = append(p.Chans, int(d.Num))
		return behind(&p.Names.Chans, d.Name)
	}
	return behind(&p.Threads, api.Thread{Name: d.Name, Body: d.Body})
}

// behind puts a thing behind those of a list, and tells its place there.
func behind[T any](l *[]T, x T) int {
	*l = append(*l, x)
	return len(*l) - 1
}

func (f *finder) main() {
	t := f.names["main"]
	if t.kind != api.DeclThread {
		f.place = api.Pos{}
		f.refuse(api.ErrMain)
	}
	f.prog.Main = t.slot
}

// bodies goes over the threads, whose bodies are so far those that were handed in.
func (f *finder) bodies() {
	for i := range f.prog.Threads {
		t := &f.prog.Threads[i]
		f.most = 0
		t.Body = f.block(t.Body)
		t.Locals = f.most
	}
}

// block tells a copy of a block whose names are found. Its locals go with it.
func (f *finder) block(l []api.Stmt) []api.Stmt {
	ahead := len(f.locals)
	defer func() {
		for _, name := range f.locals[ahead:] {
			delete(f.names, name)
		}
		f.locals = f.locals[:ahead]
	}()
	l = slices.Clone(l)
	for i := range l {
		f.stmt(&l[i])
	}
	return l
}

func (f *finder) stmt(s *api.Stmt) {
	f.place = s.Pos
	if f.prog.Stmts == api.MaxStmts {
		f.refuse(api.ErrBound)
	}
	s.ID = f.prog.Stmts
	f.prog.Stmts++
	f.expr(&s.Index)
	f.expr(&s.Expr)
	if s.Kind == api.StmtLet {
		s.Slot, s.Local = f.let(s.Name), true
	}
	w := f.wants[s.Kind]
	f.find(s.Name, w.name, &s.Slot, &s.Local)
	f.find(s.With, w.with, &s.Other, &s.Local)
	s.Body = f.block(s.Body)
	s.Else = f.block(s.Else)
}

// let makes a local, and tells its slot.
func (f *finder) let(name string) int {
	f.free(name)
	if len(f.locals) == api.MaxLocals {
		f.refuse(api.ErrBound)
	}
	slot := behind(&f.locals, name)
	f.names[name] = thing{kind: api.DeclVar, slot: slot, local: true}
	f.most = max(f.most, len(f.locals))
	return slot
}

// find fills in what a name is. Whether it is a local is told only where it may be one: all else stays as it was handed in.
func (f *finder) find(name string, kind api.DeclKind, slot *int, local *bool) {
	if kind == api.DeclNone {
		return
	}
	t, is := f.names[name]
	if !is {
		f.refuse(api.ErrUnknown)
	}
	if t.kind != kind {
		f.refuse(api.ErrKind)
	}
	*slot = t.slot
	if kind == api.DeclVar {
		*local = t.local
	}
}

// expr finds the names of an expression that is copied so far, but for its Args.
func (f *finder) expr(e *api.Expr) {
	switch e.Kind {
	case api.ExprName:
		f.find(e.Name, api.DeclVar, &e.Slot, &e.Local)
	case api.ExprCell:
		f.find(e.Name, api.DeclArray, &e.Slot, &e.Local)
	}
	e.Args = slices.Clone(e.Args)
	for i := range e.Args {
		f.expr(&e.Args[i])
	}
}
