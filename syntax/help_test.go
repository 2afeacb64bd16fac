package syntax

import (
	"reflect"
	"strings"
	"testing"

	"warp/api"
)

func num(n int64) api.Expr { return api.Expr{Kind: api.ExprNum, Num: n} }

func named(name string) api.Expr { return api.Expr{Kind: api.ExprName, Name: name} }

func cell(name string, index api.Expr) api.Expr {
	return api.Expr{Kind: api.ExprCell, Name: name, Args: []api.Expr{index}}
}

func neg(e api.Expr) api.Expr { return api.Expr{Kind: api.ExprNeg, Args: []api.Expr{e}} }

func not(e api.Expr) api.Expr { return api.Expr{Kind: api.ExprNot, Args: []api.Expr{e}} }

func bin(op api.Op, a, b api.Expr) api.Expr {
	return api.Expr{Kind: api.ExprBin, Op: op, Args: []api.Expr{a, b}}
}

func printing(e api.Expr) api.Stmt { return api.Stmt{Kind: api.StmtPrint, Expr: e} }

func thread(body ...api.Stmt) []api.Decl {
	return []api.Decl{{Kind: api.DeclThread, Name: "t", Body: body}}
}

// negs puts so many - ahead: its depth is one more.
func negs(n int, e api.Expr) api.Expr {
	for range n {
		e = neg(e)
	}
	return e
}

// nested is a statement in so many blocks.
func nested(n int, s api.Stmt) api.Stmt {
	for range n {
		s = api.Stmt{Kind: api.StmtWhile, Expr: num(1), Body: []api.Stmt{s}}
	}
	return s
}

// mustParse tells the program of a text that has one.
func mustParse(t *testing.T, text string) []api.Decl {
	t.Helper()
	l, place, fault := Parse(text)
	if fault != api.OK || place != (api.Pos{}) {
		t.Fatalf("%.80q: error %d at %v, want none", text, fault, place)
	}
	return l
}

// wantProgram fails unless the text is that program, places and all.
func wantProgram(t *testing.T, text string, want ...api.Decl) {
	t.Helper()
	got := mustParse(t, text)
	if len(got) != len(want) || len(want) > 0 && !reflect.DeepEqual(got, want) {
		t.Errorf("%q:\ngot  %+v\nwant %+v", text, got, want)
	}
}

// wantRefused fails unless the text has this error at this place, and no program beside it.
func wantRefused(t *testing.T, text string, want api.Errno, line, col int) {
	t.Helper()
	got, place, fault := Parse(text)
	if fault != want || place != (api.Pos{Line: line, Col: col}) {
		t.Errorf("%.80q: error %d at %v, want %d at %d, %d", text, fault, place, want, line, col)
	}
	if len(got) != 0 {
		t.Errorf("%.80q: a program beside an error: %v", text, got)
	}
}

// wantPrinted fails unless the program's text is that one, and says the same.
func wantPrinted(t *testing.T, l []api.Decl, want string) {
	t.Helper()
	got, fault := Print(l)
	if fault != api.OK || got != want {
		t.Fatalf("got %q, error %d; want %q", got, fault, want)
	}
	if len(want) <= api.MaxText && !Same(mustParse(t, want), l) {
		t.Fatalf("%q is not what it was printed from", want)
	}
}

// wantExpr fails unless the expression's text is that one, and says the same.
func wantExpr(t *testing.T, e api.Expr, want string) {
	t.Helper()
	got, fault := Expr(e)
	if fault != api.OK || got != want {
		t.Fatalf("got %q, error %d; want %q", got, fault, want)
	}
	wantPrinted(t, thread(printing(e)), "thread t {\n\tprint "+want+";\n}\n")
}

// everyKind holds each kind of declarations, statements and expressions, in the form that Print gives it.
var everyKind = strings.TrimPrefix(`
var x = -3;
var y = 2147483647;
array a 4;
mutex m;
cond c;
chan q 2;
thread main {
	let z = x * (y - 1) / 2 % 3;
	x = z + 1;
	a[z % 4] = -a[0] + !x;
	if x == 1 || y != 2 && z < 3 {
		lock m;
		wait c m;
		unlock m;
	} else {
		signal c;
		all c;
		while x <= a[a[x]] {
			send q (x == y) == z;
		}
	}
	recv q x;
	spawn t;
	join;
	print x - (y - z) - 1;
}
thread t {
}
`, "\n")
