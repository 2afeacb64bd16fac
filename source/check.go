package source

import "warp/api"

// stmtShape is what a kind of statements names: what its Slot and its Other are of (DeclNone, if it names none), and which parts it has.
type stmtShape struct {
	slot, other              api.DeclKind
	expr, index, body, after bool
}

var stmtShapes = [...]stmtShape{
	api.StmtLet:    {slot: api.DeclVar, expr: true},
	api.StmtSet:    {slot: api.DeclVar, expr: true},
	api.StmtPut:    {slot: api.DeclArray, expr: true, index: true},
	api.StmtIf:     {expr: true, body: true, after: true},
	api.StmtWhile:  {expr: true, body: true},
	api.StmtLock:   {slot: api.DeclMutex},
	api.StmtUnlock: {slot: api.DeclMutex},
	api.StmtWait:   {slot: api.DeclCond, other: api.DeclMutex},
	api.StmtSignal: {slot: api.DeclCond},
	api.StmtAll:    {slot: api.DeclCond},
	api.StmtSend:   {slot: api.DeclChan, expr: true},
	api.StmtRecv:   {slot: api.DeclChan, other: api.DeclVar},
	api.StmtSpawn:  {slot: api.DeclThread},
	api.StmtJoin:   {},
	api.StmtPrint:  {expr: true},
}

// exprShape is what a kind of expressions names.
type exprShape struct {
	slot api.DeclKind
	args int
}

var exprShapes = [...]exprShape{
	api.ExprNum:  {},
	api.ExprName: {slot: api.DeclVar},
	api.ExprCell: {slot: api.DeclArray, args: 1},
	api.ExprNeg:  {args: 1},
	api.ExprNot:  {args: 1},
	api.ExprBin:  {args: 2},
}

// checker looks at a program's statements, one behind the other. It looks at no more of them than there may be, and no deeper, so that programs of any size are done soon.
type checker struct {
	prog   *api.Prog
	locals int // those of the thread that is looked at
	stmts  int // how many were looked at
}

// mayRun tells whether a program is one of which there is a state.
func mayRun(p api.Prog) bool {
	if !mayCount(&p) || !mayValues(&p) || !isPlace(p.Main, len(p.Threads)) {
		return false
	}
	c := checker{prog: &p}
	for i := range p.Threads {
		t := &p.Threads[i]
		c.locals = t.Locals
		if t.Locals < 0 || t.Locals > api.MaxLocals || !c.block(t.Body, 1) {
			return false
		}
	}
	return c.stmts == p.Stmts
}

// mayCount looks at how many names there are. Each count is held against the bound alone first, so that the sum is one.
func mayCount(p *api.Prog) bool {
	sum := 0
	for _, n := range [...]int{len(p.Vars), len(p.Arrays), p.Mutexes, p.Conds, len(p.Chans), len(p.Threads)} {
		if n < 0 || n > api.MaxNames {
			return false
		}
		sum += n
	}
	return sum <= api.MaxNames
}

func mayValues(p *api.Prog) bool {
	for _, v := range p.Vars {
		if !isValue(v) {
			return false
		}
	}
	cells := 0
	for _, n := range p.Arrays {
		if n < 1 || n > api.MaxCells-cells {
			return false
		}
		cells += n
	}
	for _, room := range p.Chans {
		if room < 1 || room > api.MaxRoom {
			return false
		}
	}
	return true
}

func isValue(v int64) bool { return int64(int32(v)) == v }

// isPlace tells whether there is that one among so many.
func isPlace(n, many int) bool { return 0 <= n && n < many }

func (c *checker) block(l []api.Stmt, depth int) bool {
	for i := range l {
		s := &l[i]
		if depth > api.MaxDepth || c.stmts == api.MaxStmts || s.ID != c.stmts {
			return false
		}
		c.stmts++
		if !c.stmt(s) || !c.block(s.Body, depth+1) || !c.block(s.Else, depth+1) {
			return false
		}
	}
	return true
}

// stmt looks at a statement, but for those in it.
func (c *checker) stmt(s *api.Stmt) bool {
	if s.Kind <= api.StmtNone || s.Kind > api.StmtPrint {
		return false
	}
	w := stmtShapes[s.Kind]
	return c.slot(w.slot, s.Slot, s.Local) && c.slot(w.other, s.Other, s.Local) &&
		(s.Kind != api.StmtLet || s.Local) &&
		(!w.index || c.expr(&s.Index, 1)) && (!w.expr || c.expr(&s.Expr, 1)) &&
		(w.body || len(s.Body) == 0) && (w.after || len(s.Else) == 0)
}

// slot looks at what is named of a kind: of variables it may be a local instead.
func (c *checker) slot(kind api.DeclKind, n int, local bool) bool {
	switch kind {
	case api.DeclVar:
		if local {
			return isPlace(n, c.locals)
		}
		return isPlace(n, len(c.prog.Vars))
	case api.DeclArray:
		return isPlace(n, len(c.prog.Arrays))
	case api.DeclMutex:
		return isPlace(n, c.prog.Mutexes)
	case api.DeclCond:
		return isPlace(n, c.prog.Conds)
	case api.DeclChan:
		return isPlace(n, len(c.prog.Chans))
	case api.DeclThread:
		return isPlace(n, len(c.prog.Threads))
	}
	return true
}

func (c *checker) expr(e *api.Expr, depth int) bool {
	if depth > api.MaxDepth || e.Kind <= api.ExprNone || e.Kind > api.ExprBin {
		return false
	}
	w := exprShapes[e.Kind]
	if !c.slot(w.slot, e.Slot, e.Local) || len(e.Args) != w.args ||
		e.Kind == api.ExprNum && !isValue(e.Num) ||
		e.Kind == api.ExprBin && (e.Op <= api.OpNone || e.Op > api.OpMod) {
		return false
	}
	for i := range e.Args {
		if !c.expr(&e.Args[i], depth+1) {
			return false
		}
	}
	return true
}
