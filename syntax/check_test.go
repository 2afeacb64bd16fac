package syntax

import (
	"math"
	"strings"
	"testing"

	"warp/api"
)

// wantMay fails unless Check, and Print with it, say so of the program.
func wantMay(t *testing.T, what string, may bool, l ...api.Decl) {
	t.Helper()
	want := api.OK
	if !may {
		want = api.ErrArg
	}
	if got := Check(l); got != want {
		t.Errorf("%s: Check: %d, want %d: %.300v", what, got, want, l)
	}
	text, fault := Print(l)
	if fault != want || !may && text != "" {
		t.Errorf("%s: Print: %.80q, %d, want %d", what, text, fault, want)
	}
}

// wantMayStmt asks the same of a statement: alone, behind others, and in blocks.
func wantMayStmt(t *testing.T, what string, may bool, s api.Stmt) {
	t.Helper()
	join := api.Stmt{Kind: api.StmtJoin}
	wantMay(t, what, may, thread(s)...)
	wantMay(t, what, may, append(thread(join), thread(join, s)...)...)
	wantMay(t, what+" in a block", may, thread(nested(3, s))...)
	wantMay(t, what+" in an else", may, thread(api.Stmt{Kind: api.StmtIf, Expr: num(1), Else: []api.Stmt{join, s}})...)
}

// wantMayExpr asks the same of an expression, of Expr too, and as a part of others.
func wantMayExpr(t *testing.T, what string, may bool, e api.Expr) {
	t.Helper()
	text, fault := Expr(e)
	if may != (fault == api.OK) || !may && (fault != api.ErrArg || text != "") {
		t.Errorf("%s: Expr: %.80q, %d", what, text, fault)
	}
	wantMayStmt(t, what, may, printing(e))
	wantMayStmt(t, what+" as an index", may, api.Stmt{Kind: api.StmtPut, Name: "a", Index: e, Expr: num(1)})
	if deeper := bin(api.OpAdd, num(1), e); deepOf(e) < api.MaxDepth {
		wantMayStmt(t, what+" on the right", may, printing(deeper))
		wantMayStmt(t, what+" of a cell", may, printing(cell("a", e)))
	}
}

func deepOf(e api.Expr) int {
	deep := 0
	for _, x := range e.Args {
		deep = max(deep, deepOf(x))
	}
	return deep + 1
}

// noNames are texts that are no names.
var noNames = []string{"", "7", "X", "aB", "a b", " a", "a;", "é", "a\xff", "a\n", "let", "var", "print", "else", "a2345678901234567", strings.Repeat("a", 70000)}

// P2.2: declarations, kind by kind: what they name at its bounds, and what they don't.
func TestCheckDeclarations(t *testing.T) {
	wantMay(t, "none", true)
	wantMay(t, "an empty list", true, []api.Decl{}...)
	nums := []int64{math.MinInt64, -1 << 31, -1<<31 + 1, -5, -1, 0, 1, 5, 1<<31 - 1, 1 << 31, math.MaxInt64}
	for kind := api.DeclKind(-2); kind < 10; kind++ {
		is := kind >= api.DeclVar && kind <= api.DeclThread
		for _, n := range nums {
			low, high := int64(0), int64(0)
			switch kind {
			case api.DeclVar:
				low, high = -1<<31+1, 1<<31-1
			case api.DeclArray, api.DeclChan:
				high = 1<<31 - 1
			}
			wantMay(t, "a number", is && low <= n && n <= high, api.Decl{Kind: kind, Name: "x", Num: n})
		}
		for _, s := range noNames {
			wantMay(t, "no name", false, api.Decl{Kind: kind, Name: s})
		}
		body := []api.Stmt{{Kind: api.StmtJoin}}
		wantMay(t, "a body", kind == api.DeclThread, api.Decl{Kind: kind, Name: "x", Body: body})
		wantMay(t, "a body and a number", false, api.Decl{Kind: kind, Name: "x", Body: body, Num: 1})
		wantMay(t, "an empty body", is, api.Decl{Kind: kind, Name: "x", Body: body[:0]})
		wantMay(t, "a place", is, api.Decl{Kind: kind, Name: "x", Pos: at(-3, 1<<40)})
		wantMay(t, "the longest name", is, api.Decl{Kind: kind, Name: "a234567890123456"})
	}
	good := api.Decl{Kind: api.DeclMutex, Name: "m"}
	wantMay(t, "a zero one behind a good one", false, good, api.Decl{})
	wantMay(t, "a zero one ahead of a good one", false, api.Decl{}, good)
	wantMay(t, "twice the same", true, good, good)
}

// stmtNames tells by the document what each kind of statements names: n Name, w With, e Expr, i Index, b Body, o Else.
var stmtNames = []string{"", "ne", "ne", "nei", "ebo", "eb", "n", "n", "nw", "n", "n", "ne", "nw", "n", "", "e"}

// stmtOf is a statement of a kind that may be.
func stmtOf(kind api.StmtKind) api.Stmt {
	s := api.Stmt{Kind: kind}
	for _, part := range stmtNames[kind] {
		setPart(&s, part, true)
	}
	return s
}

// setPart puts something, or nothing, there.
func setPart(s *api.Stmt, part rune, is bool) {
	full := api.Stmt{}
	if is {
		join := []api.Stmt{{Kind: api.StmtJoin}}
		full = api.Stmt{Name: "x", With: "y", Expr: named("z"), Index: num(0), Body: join, Else: join}
	}
	switch part {
	case 'n':
		s.Name = full.Name
	case 'w':
		s.With = full.With
	case 'e':
		s.Expr = full.Expr
	case 'i':
		s.Index = full.Index
	case 'b':
		s.Body = full.Body
	case 'o':
		s.Else = full.Else
	}
}

// P2.2: statements, kind by kind: each part that is named and not there, or there and not named.
func TestCheckStatements(t *testing.T) {
	for kind := api.StmtLet; kind <= api.StmtPrint; kind++ {
		names := stmtNames[kind]
		wantMayStmt(t, "all parts", true, stmtOf(kind))
		for _, part := range "nweibo" {
			s := stmtOf(kind)
			is := strings.ContainsRune(names, part)
			setPart(&s, part, !is)
			what := "kind " + string(rune('a'+kind)) + ": the other way " + string(part)
			wantMayStmt(t, what, is && (part == 'b' || part == 'o'), s)
		}
		s := stmtOf(kind)
		s.Pos, s.ID, s.Slot, s.Other, s.Local = at(7, -7), -1, 1<<50, -9, true
		s.Expr.Slot, s.Expr.Local, s.Index.Slot, s.Index.Local = -4, true, 9, true
		wantMayStmt(t, "what is found later", true, s)
		s = stmtOf(kind)
		if s.Body == nil {
			s.Body = []api.Stmt{}
		}
		if s.Else == nil {
			s.Else = []api.Stmt{}
		}
		if s.Expr.Kind == api.ExprNone {
			s.Expr.Args = []api.Expr{}
		}
		s.Index.Args = []api.Expr{}
		wantMayStmt(t, "empty lists", true, s)
	}
	for _, kind := range []api.StmtKind{math.MinInt, -1, 0, 16, 17, 1 << 32, math.MaxInt} {
		wantMayStmt(t, "no kind", false, api.Stmt{Kind: kind})
		wantMayStmt(t, "no kind", false, api.Stmt{Kind: kind, Name: "x", Expr: num(1)})
	}
	for _, s := range noNames {
		wantMayStmt(t, "no name", false, api.Stmt{Kind: api.StmtLock, Name: s})
		wantMayStmt(t, "no second name", false, api.Stmt{Kind: api.StmtRecv, Name: "q", With: s})
	}
}

// P2.2: a part that a statement does not name is zero in each of its fields, but for what is found later.
func TestCheckPartsNotNamed(t *testing.T) {
	for _, e := range []api.Expr{num(0), {Num: 1}, {Name: "x"}, {Op: api.OpAdd}, {Args: []api.Expr{{}}}, {Kind: -1}, {Kind: 99}} {
		wantMayStmt(t, "an expression", false, api.Stmt{Kind: api.StmtJoin, Expr: e})
		wantMayStmt(t, "an index", false, api.Stmt{Kind: api.StmtPrint, Expr: num(1), Index: e})
	}
	wantMayStmt(t, "a block in one that may not be", false, api.Stmt{Kind: api.StmtLock, Name: "m", Body: []api.Stmt{{}}})
	wantMayStmt(t, "a flaw in a block", false, api.Stmt{Kind: api.StmtIf, Expr: num(1), Body: []api.Stmt{{}}})
	wantMayStmt(t, "a flaw in an else", false, api.Stmt{Kind: api.StmtIf, Expr: num(1), Else: []api.Stmt{{}}})
}

// P2.2: expressions, kind by kind.
func TestCheckExpressions(t *testing.T) {
	one := []api.Expr{num(1)}
	two := []api.Expr{num(1), num(2)}
	three := []api.Expr{num(1), num(2), num(3)}
	shapes := map[api.ExprKind]api.Expr{
		api.ExprNum:  {},
		api.ExprName: {Name: "x"},
		api.ExprCell: {Name: "x", Args: one},
		api.ExprNeg:  {Args: one},
		api.ExprNot:  {Args: one},
		api.ExprBin:  {Op: api.OpAdd, Args: two},
	}
	for kind, e := range shapes {
		e.Kind = kind
		wantMayExpr(t, "as named", true, e)
		with := func(what string, may bool, change func(*api.Expr)) {
			x := e
			change(&x)
			wantMayExpr(t, what, may, x)
		}
		with("found later", true, func(x *api.Expr) { x.Slot, x.Local = -7, true })
		for _, n := range []int64{math.MinInt64, -1 << 31, -1, 0, 1, 1<<31 - 1, 1 << 31, math.MaxInt64} {
			may := n == 0 || kind == api.ExprNum && n > 0 && n < 1<<31
			with("a number", may, func(x *api.Expr) { x.Num = n })
		}
		for _, args := range [][]api.Expr{nil, {}, one, two, three, {{}}, {{}, {}}, {num(1), {}}, {{}, num(1)}, {{Kind: api.ExprNeg}}} {
			flaw := len(args) > 0 && (args[0].Kind != api.ExprNum || args[len(args)-1].Kind != api.ExprNum)
			with("args", len(args) == len(e.Args) && !flaw, func(x *api.Expr) { x.Args = args })
		}
		for op := api.Op(-2); op < 15; op++ {
			may := op == api.OpNone
			if kind == api.ExprBin {
				may = op >= api.OpOr && op <= api.OpMod
			}
			with("an operator", may, func(x *api.Expr) { x.Op = op })
		}
		for _, s := range noNames {
			may := s == "" && e.Name == ""
			with("no name", may, func(x *api.Expr) { x.Name = s })
		}
		with("a name", e.Name != "", func(x *api.Expr) { x.Name = "a234567890123456" })
		for _, k := range []api.ExprKind{math.MinInt, -1, 0, 7, 8, math.MaxInt} {
			with("no kind", false, func(x *api.Expr) { x.Kind = k })
		}
	}
}

// P2.2: depth at its bound, and one past it.
func TestCheckDepth(t *testing.T) {
	most := api.MaxDepth
	for _, leaf := range []api.Expr{num(1), named("x")} {
		wantMayExpr(t, "as deep as may be", true, negs(most-1, leaf))
		wantMayExpr(t, "one deeper", false, negs(most, leaf))
	}
	for _, op := range []api.Op{api.OpOr, api.OpLt, api.OpMod} {
		left, right, index := num(1), num(1), num(1)
		for range most - 1 {
			left, right, index = bin(op, left, num(1)), bin(op, num(1), right), cell("a", index)
		}
		for _, e := range []api.Expr{left, right, index} {
			wantMayExpr(t, "as deep as may be", true, e)
			wantMayExpr(t, "one deeper", false, not(e))
		}
	}
	join := api.Stmt{Kind: api.StmtJoin}
	empty := api.Stmt{Kind: api.StmtWhile, Expr: num(1)}
	wantMay(t, "blocks at the bound", true, thread(nested(most-1, join))...)
	wantMay(t, "an empty block below", true, thread(nested(most-1, empty))...)
	wantMay(t, "blocks past the bound", false, thread(nested(most, join))...)
	wantMay(t, "an empty one past the bound", false, thread(nested(most, empty))...)
	choice := join
	for range most {
		wantMay(t, "else in else", true, thread(choice)...)
		choice = api.Stmt{Kind: api.StmtIf, Expr: num(1), Else: []api.Stmt{choice}}
	}
	wantMay(t, "else in else past the bound", false, thread(choice)...)
	wantMay(t, "both at the bound", true, thread(nested(most-1, printing(negs(most-1, num(1)))))...)
}

// P2.2: trees without measure end, too.
func TestCheckHuge(t *testing.T) {
	wantMay(t, "an expression", false, thread(printing(negs(300000, num(1))))...)
	wantMay(t, "blocks", false, thread(nested(100000, api.Stmt{Kind: api.StmtJoin}))...)
	wide := num(1)
	for range 60 { // as a tree it has 2^60 parts
		wide = api.Expr{Kind: api.ExprBin, Op: api.OpAdd, Args: []api.Expr{wide, wide}}
	}
	if _, fault := Expr(wide); fault != api.ErrArg {
		t.Error("a huge expression:", fault)
	}
	many := make([]api.Stmt, 100000)
	for i := range many {
		many[i] = printing(num(int64(i)))
	}
	if text, fault := Print(thread(many...)); fault != api.OK || strings.Count(text, "print") != len(many) {
		t.Error("many statements:", fault, len(text))
	}
}
