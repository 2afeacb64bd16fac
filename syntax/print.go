package syntax

import (
	"strconv"
	"strings"

	"warp/api"
)

// declWords are the keywords of declarations, by kind.
var declWords = [...]string{
	api.DeclVar:    "var",
	api.DeclArray:  "array",
	api.DeclMutex:  "mutex",
	api.DeclCond:   "cond",
	api.DeclChan:   "chan",
	api.DeclThread: "thread",
}

// stmtWords are the keywords of statements, by kind; set and put have none.
var stmtWords = [...]string{
	api.StmtLet:    "let",
	api.StmtIf:     "if",
	api.StmtWhile:  "while",
	api.StmtLock:   "lock",
	api.StmtUnlock: "unlock",
	api.StmtWait:   "wait",
	api.StmtSignal: "signal",
	api.StmtAll:    "all",
	api.StmtSend:   "send",
	api.StmtRecv:   "recv",
	api.StmtSpawn:  "spawn",
	api.StmtJoin:   "join",
	api.StmtPrint:  "print",
}

// printer makes texts of trees that may be.
type printer struct{ strings.Builder }

func (p *printer) put(parts ...string) {
	for _, s := range parts {
		p.WriteString(s)
	}
}

func (p *printer) tabs(n int) { p.put(strings.Repeat("\t", n)) }

func (p *printer) decl(d api.Decl) {
	p.put(declWords[d.Kind], " ", d.Name)
	num := strconv.FormatInt(d.Num, 10)
	switch d.Kind {
	case api.DeclVar:
		p.put(" = ", num)
	case api.DeclArray, api.DeclChan:
		p.put(" ", num)
	case api.DeclThread:
		p.put(" ")
		p.block(d.Body, 0)
		p.put("\n")
		return
	}
	p.put(";\n")
}

// block prints a block that begins on a line with so many bytes 9 ahead.
func (p *printer) block(l []api.Stmt, tabs int) {
	p.put("{\n")
	for _, s := range l {
		p.tabs(tabs + 1)
		p.stmt(s, tabs+1)
		p.put("\n")
	}
	p.tabs(tabs)
	p.put("}")
}

// stmt prints a statement from behind the bytes 9 ahead of it on.
func (p *printer) stmt(s api.Stmt, tabs int) {
	p.put(stmtWords[s.Kind])
	switch s.Kind {
	case api.StmtLet:
		p.put(" ", s.Name, " = ")
		p.expr(s.Expr, 0)
	case api.StmtSet:
		p.put(s.Name, " = ")
		p.expr(s.Expr, 0)
	case api.StmtPut:
		p.cell(s.Name, s.Index)
		p.put(" = ")
		p.expr(s.Expr, 0)
	case api.StmtIf, api.StmtWhile:
		p.blocks(s, tabs)
		return
	case api.StmtWait, api.StmtRecv:
		p.put(" ", s.Name, " ", s.With)
	case api.StmtSend:
		p.put(" ", s.Name, " ")
		p.expr(s.Expr, 0)
	case api.StmtPrint:
		p.put(" ")
		p.expr(s.Expr, 0)
	case api.StmtJoin:
	default:
		p.put(" ", s.Name)
	}
	p.put(";")
}

// blocks prints what stands behind the keyword of a statement that has blocks.
func (p *printer) blocks(s api.Stmt, tabs int) {
	p.put(" ")
	p.expr(s.Expr, 0)
	p.put(" ")
	p.block(s.Body, tabs)
	if len(s.Else) > 0 {
		p.put(" else ")
		p.block(s.Else, tabs)
	}
}

func (p *printer) cell(name string, index api.Expr) {
	p.put(name, "[")
	p.expr(index, 0)
	p.put("]")
}

// expr prints an expression where operators of at least a rank may stand without parentheses.
func (p *printer) expr(e api.Expr, least int) {
	switch e.Kind {
	case api.ExprNum:
		p.put(strconv.FormatInt(e.Num, 10))
	case api.ExprName:
		p.put(e.Name)
	case api.ExprCell:
		p.cell(e.Name, e.Args[0])
	case api.ExprNeg:
		p.put("-")
		p.expr(e.Args[0], unary)
	case api.ExprNot:
		p.put("!")
		p.expr(e.Args[0], unary)
	case api.ExprBin:
		p.between(e, least)
	}
}

func (p *printer) between(e api.Expr, least int) {
	o, rank, _ := ranked(func(o operator) bool { return o.op == e.Op })
	if rank < least {
		p.put("(")
		defer p.put(")")
	}
	p.expr(e.Args[0], lefts(rank))
	p.put(" ", o.sign, " ")
	p.expr(e.Args[1], rank+1)
}
