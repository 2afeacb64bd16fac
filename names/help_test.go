package names

import (
	"reflect"
	"strings"
	"testing"

	"warp/api"
	"warp/syntax"
)

func at(line, col int) api.Pos { return api.Pos{Line: line, Col: col} }

func num(n int64) api.Expr { return api.Expr{Kind: api.ExprNum, Num: n} }

// variable, local and cell are expressions that are found.
func variable(name string, slot int) api.Expr {
	return api.Expr{Kind: api.ExprName, Name: name, Slot: slot}
}

func local(name string, slot int) api.Expr {
	return api.Expr{Kind: api.ExprName, Name: name, Slot: slot, Local: true}
}

func cell(name string, slot int, index api.Expr) api.Expr {
	return api.Expr{Kind: api.ExprCell, Name: name, Slot: slot, Args: []api.Expr{index}}
}

func bin(op api.Op, a, b api.Expr) api.Expr {
	return api.Expr{Kind: api.ExprBin, Op: op, Args: []api.Expr{a, b}}
}

func neg(e api.Expr) api.Expr { return api.Expr{Kind: api.ExprNeg, Args: []api.Expr{e}} }

// negs puts so many - ahead: its depth is one more.
func negs(n int, e api.Expr) api.Expr {
	for range n {
		e = neg(e)
	}
	return e
}

// nested is a statement in so many blocks.
func nested(n int, s api.Stmt) api.Stmt {
	for range n {
		s = api.Stmt{Kind: api.StmtWhile, Expr: num(1), Body: []api.Stmt{s}}
	}
	return s
}

// mustParse tells the declarations of a text that has some.
func mustParse(t *testing.T, text string) []api.Decl {
	t.Helper()
	l, place, fault := syntax.Parse(text)
	if fault != api.OK {
		t.Fatalf("%.200q: layer 2 says %d at %v", text, fault, place)
	}
	return l
}

// mustFind tells the program of a text that has one.
func mustFind(t *testing.T, text string) api.Prog {
	t.Helper()
	p, place, fault := Text(text)
	if fault != api.OK || place != (api.Pos{}) {
		t.Fatalf("%.200q: error %d at %v, want none", text, fault, place)
	}
	q, place, fault := Find(mustParse(t, text))
	if fault != api.OK || place != (api.Pos{}) || !reflect.DeepEqual(p, q) {
		t.Fatalf("%.200q: Find: error %d at %v; %+v, and Text: %+v", text, fault, place, q, p)
	}
	return p
}

// wantNothing fails if a program stands beside an error.
func wantNothing(t *testing.T, what string, p api.Prog) {
	t.Helper()
	if !reflect.DeepEqual(p, api.Prog{}) {
		t.Errorf("%.200q: a program beside an error, of %d threads and %d statements", what, len(p.Threads), p.Stmts)
	}
}

// wantFlaw fails unless the text, and the declarations that it parses as, have this error at this place.
func wantFlaw(t *testing.T, text string, want api.Errno, line, col int) {
	t.Helper()
	p, place, fault := Text(text)
	if fault != want || place != at(line, col) {
		t.Errorf("%.300q: error %d at %v, want %d at %d, %d", text, fault, place, want, line, col)
	}
	wantNothing(t, text, p)
	wantRefused(t, mustParse(t, text), want, at(line, col))
}

// wantRefused asks the same of declarations.
func wantRefused(t *testing.T, l []api.Decl, want api.Errno, place api.Pos) {
	t.Helper()
	p, got, fault := Find(l)
	if fault != want || got != place {
		text, _ := syntax.Print(l) // a tree that layer 2 refuses may be too large to be told
		t.Errorf("%d declarations, %.300q: error %d at %v, want %d at %v", len(l), text, fault, got, want, place)
	}
	wantNothing(t, "Find", p)
}

// spoil changes all that a program holds, spare room included.
func spoil(p api.Prog) {
	for i := range p.Threads {
		spoilBlock(p.Threads[i].Body)
		p.Threads[i] = api.Thread{Name: "spoilt", Locals: 77}
	}
	spoilList(p.Vars, 77)
	spoilList(p.Arrays, 77)
	spoilList(p.Chans, 77)
	spoilList(p.Threads, api.Thread{Name: "spoilt"})
	for _, l := range [][]string{p.Names.Vars, p.Names.Arrays, p.Names.Mutexes, p.Names.Conds, p.Names.Chans} {
		spoilList(l, "spoilt")
	}
}

func spoilBlock(l []api.Stmt) {
	for i := range l {
		spoilBlock(l[i].Body)
		spoilBlock(l[i].Else)
		spoilArgs(l[i].Expr.Args)
		spoilArgs(l[i].Index.Args)
	}
	spoilList(l, api.Stmt{Name: "spoilt", ID: 77})
}

func spoilArgs(l []api.Expr) {
	for i := range l {
		spoilArgs(l[i].Args)
	}
	spoilList(l, api.Expr{Name: "spoilt", Slot: 77})
}

func spoilList[T any](l []T, x T) {
	l = l[:cap(l)]
	for i := range l {
		l[i] = x
	}
}

// everyKind holds each kind of declarations, statements and expressions, several of most, and main neither first nor last.
var everyKind = strings.TrimPrefix(`
thread first {
	print a[0];
}
var x = -3;
array a 4;
mutex m;
cond c;
chan q 2;
var y = 2147483647;
array b 252;
mutex n;
cond d;
chan r 16;
thread main {
	let z = x * (y - 1) / 2 % 3;
	x = z + 1;
	b[z % 4] = -a[0] + !x;
	if x == 1 || y != 2 && z < 3 {
		let u = z;
		lock n;
		wait d n;
		unlock m;
		z = u;
	} else {
		signal c;
		all d;
		while y <= a[b[x]] {
			let v = 1;
			send r (x == y) == v;
			recv r v;
		}
		let w = a[z];
	}
	recv q y;
	recv r z;
	spawn last;
	spawn first;
	spawn main;
	join;
	let u = z;
	print y - (u - z) - 1;
}
thread last {
}
`, "\n")
