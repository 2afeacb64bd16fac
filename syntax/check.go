package syntax

import (
	"math"

	"warp/api"
	"warp/lex"
)

// stmtShape is what a kind of statements names.
type stmtShape struct{ name, with, expr, index, body, other bool }

var stmtShapes = [...]stmtShape{
	api.StmtLet:    {name: true, expr: true},
	api.StmtSet:    {name: true, expr: true},
	api.StmtPut:    {name: true, expr: true, index: true},
	api.StmtIf:     {expr: true, body: true, other: true},
	api.StmtWhile:  {expr: true, body: true},
	api.StmtLock:   {name: true},
	api.StmtUnlock: {name: true},
	api.StmtWait:   {name: true, with: true},
	api.StmtSignal: {name: true},
	api.StmtAll:    {name: true},
	api.StmtSend:   {name: true, expr: true},
	api.StmtRecv:   {name: true, with: true},
	api.StmtSpawn:  {name: true},
	api.StmtJoin:   {},
	api.StmtPrint:  {expr: true},
}

// exprShape is what a kind of expressions names.
type exprShape struct {
	num, name, op bool
	args          int
}

var exprShapes = [...]exprShape{
	api.ExprNum:  {num: true},
	api.ExprName: {name: true},
	api.ExprCell: {name: true, args: 1},
	api.ExprNeg:  {args: 1},
	api.ExprNot:  {args: 1},
	api.ExprBin:  {op: true, args: 2},
}

func mayDecl(d api.Decl) bool {
	if !lex.Name(d.Name) {
		return false
	}
	least, most := int64(0), int64(0)
	switch d.Kind {
	case api.DeclVar:
		least, most = -math.MaxInt32, math.MaxInt32
	case api.DeclArray, api.DeclChan:
		most = math.MaxInt32
	case api.DeclMutex, api.DeclCond:
	case api.DeclThread:
		return d.Num == 0 && mayBlock(d.Body)
	default:
		return false
	}
	return least <= d.Num && d.Num <= most && len(d.Body) == 0
}

func mayBlock(l []api.Stmt) bool {
	for depth, s := range within(l, 1) {
		if depth > api.MaxDepth || !mayStmt(s) {
			return false
		}
	}
	return true
}

// mayStmt looks at a statement, but for what those in it are.
func mayStmt(s api.Stmt) bool {
	if s.Kind <= api.StmtNone || s.Kind > api.StmtPrint {
		return false
	}
	w := stmtShapes[s.Kind]
	return mayName(s.Name, w.name) && mayName(s.With, w.with) &&
		mayPart(s.Expr, w.expr) && mayPart(s.Index, w.index) &&
		(w.body || len(s.Body) == 0) && (w.other || len(s.Else) == 0)
}

func mayName(s string, named bool) bool {
	if named {
		return lex.Name(s)
	}
	return s == ""
}

func mayNum(n int64, named bool) bool {
	return n == 0 || named && 0 < n && n <= math.MaxInt32
}

func mayOp(o api.Op, named bool) bool {
	if named {
		return api.OpNone < o && o <= api.OpMod
	}
	return o == api.OpNone
}

func mayPart(e api.Expr, named bool) bool {
	if named {
		return mayExpr(e, api.MaxDepth)
	}
	return e.Kind == api.ExprNone && e.Num == 0 && e.Name == "" && e.Op == api.OpNone && len(e.Args) == 0
}

// mayExpr looks at an expression of at most a depth; below it nothing is looked at, so that trees of any size are done soon.
func mayExpr(e api.Expr, depth int) bool {
	if depth == 0 || e.Kind <= api.ExprNone || e.Kind > api.ExprBin {
		return false
	}
	w := exprShapes[e.Kind]
	if !mayName(e.Name, w.name) || !mayNum(e.Num, w.num) || !mayOp(e.Op, w.op) || len(e.Args) != w.args {
		return false
	}
	for _, x := range e.Args {
		if !mayExpr(x, depth-1) {
			return false
		}
	}
	return true
}

// tooDeep finds the place of the first statement that is too deep.
func tooDeep(l []api.Decl) (api.Pos, bool) {
	for _, d := range l {
		for depth, s := range within(d.Body, 1) {
			if depth > api.MaxDepth || deeper(s.Expr, api.MaxDepth) || deeper(s.Index, api.MaxDepth) {
				return s.Pos, true
			}
		}
	}
	return api.Pos{}, false
}

func deeper(e api.Expr, depth int) bool {
	if depth == 0 {
		return true
	}
	for _, x := range e.Args {
		if deeper(x, depth-1) {
			return true
		}
	}
	return false
}
