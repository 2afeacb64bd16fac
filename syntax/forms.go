package syntax

import "warp/api"

// forms are the ways to read a statement, from behind the keyword that begins it.
func forms() map[string]func(*reader) api.Stmt {
	return map[string]func(*reader) api.Stmt{
		"let":    (*reader).let,
		"if":     (*reader).choice,
		"while":  (*reader).loop,
		"lock":   naming(api.StmtLock),
		"unlock": naming(api.StmtUnlock),
		"wait":   namingTwo(api.StmtWait),
		"signal": naming(api.StmtSignal),
		"all":    naming(api.StmtAll),
		"send":   (*reader).send,
		"recv":   namingTwo(api.StmtRecv),
		"spawn":  naming(api.StmtSpawn),
		"join":   (*reader).join,
		"print":  (*reader).print,
	}
}

// naming is the way to read a statement of a kind that has a name alone.
func naming(kind api.StmtKind) func(*reader) api.Stmt {
	return func(r *reader) api.Stmt {
		s := api.Stmt{Kind: kind, Name: r.name()}
		r.want(";")
		return s
	}
}

// namingTwo is the way to read a statement of a kind that has two names.
func namingTwo(kind api.StmtKind) func(*reader) api.Stmt {
	return func(r *reader) api.Stmt {
		s := api.Stmt{Kind: kind, Name: r.name()}
		s.With = r.name()
		r.want(";")
		return s
	}
}

// worth reads the expression that a statement ends with.
func (r *reader) worth() api.Expr {
	e := r.expr()
	r.want(";")
	return e
}

func (r *reader) assignment() api.Stmt {
	s := api.Stmt{Kind: api.StmtSet, Name: r.name()}
	if r.take("[") {
		s.Kind, s.Index = api.StmtPut, r.expr()
		r.want("]")
	}
	r.want("=")
	s.Expr = r.worth()
	return s
}

func (r *reader) let() api.Stmt {
	s := api.Stmt{Kind: api.StmtLet, Name: r.name()}
	r.want("=")
	s.Expr = r.worth()
	return s
}

func (r *reader) choice() api.Stmt {
	s := api.Stmt{Kind: api.StmtIf, Expr: r.expr()}
	s.Body = r.block()
	if r.take("else") {
		s.Else = r.block()
	}
	return s
}

func (r *reader) loop() api.Stmt {
	s := api.Stmt{Kind: api.StmtWhile, Expr: r.expr()}
	s.Body = r.block()
	return s
}

func (r *reader) send() api.Stmt {
	s := api.Stmt{Kind: api.StmtSend, Name: r.name()}
	s.Expr = r.worth()
	return s
}

func (r *reader) join() api.Stmt {
	r.want(";")
	return api.Stmt{Kind: api.StmtJoin}
}

func (r *reader) print() api.Stmt {
	return api.Stmt{Kind: api.StmtPrint, Expr: r.worth()}
}
