package names

import (
	"reflect"
	"slices"
	"strings"
	"testing"

	"warp/api"
	"warp/syntax"
)

// wantProgram fails unless the text is that program, places and all.
func wantProgram(t *testing.T, text string, want api.Prog) {
	t.Helper()
	if got := mustFind(t, text); !reflect.DeepEqual(got, want) {
		t.Errorf("%q:\ngot  %+v\nwant %+v", text, got, want)
	}
}

// P3.1: the chapter's examples.
func TestChapterExamples(t *testing.T) {
	wantProgram(t, "var x = 1; thread main { let y = x; x = y + 1; print x; }", api.Prog{
		Vars: []int64{1}, Stmts: 3, Names: api.Names{Vars: []string{"x"}},
		Threads: []api.Thread{{Name: "main", Locals: 1, Body: []api.Stmt{
			{Kind: api.StmtLet, Pos: at(1, 26), Name: "y", Expr: variable("x", 0), ID: 0, Slot: 0, Local: true},
			{Kind: api.StmtSet, Pos: at(1, 37), Name: "x", Expr: bin(api.OpAdd, local("y", 0), num(1)), ID: 1, Slot: 0},
			{Kind: api.StmtPrint, Pos: at(1, 48), Expr: variable("x", 0), ID: 2},
		}}},
	})
	wantFlaw(t, "thread main { x = 1; }", api.ErrUnknown, 1, 15)
	wantFlaw(t, "var x = 1; var x = 2; thread main { }", api.ErrTwice, 1, 12)
}

// P3.1: what a program is made of, each kind with slots of its own, as they were declared.
func TestDeclarations(t *testing.T) {
	wantProgram(t, "thread main { }", api.Prog{Threads: []api.Thread{{Name: "main"}}})
	p := mustFind(t, everyKind)
	threads := p.Threads
	p.Threads = nil
	want := api.Prog{
		Vars: []int64{-3, 2147483647}, Arrays: []int{4, 252}, Mutexes: 2, Conds: 2, Chans: []int{2, 16}, Main: 1, Stmts: 25,
		Names: api.Names{Vars: []string{"x", "y"}, Arrays: []string{"a", "b"}, Mutexes: []string{"m", "n"}, Conds: []string{"c", "d"}, Chans: []string{"q", "r"}},
	}
	if !reflect.DeepEqual(p, want) {
		t.Errorf("got  %+v\nwant %+v", p, want)
	}
	for i, want := range []api.Thread{{Name: "first"}, {Name: "main", Locals: 2}, {Name: "last"}} {
		if threads[i].Name != want.Name || threads[i].Locals != want.Locals {
			t.Errorf("thread %d: %s, %d locals", i, threads[i].Name, threads[i].Locals)
		}
	}
	if len(threads) != 3 || len(threads[0].Body) != 1 || len(threads[1].Body) != 12 || len(threads[2].Body) != 0 {
		t.Error("the bodies are others")
	}
	for i, text := range []string{
		"thread main { } thread a { } thread b { }",
		"thread a { } mutex x; thread main { } thread b { }",
		"thread a { } var y = 0; thread b { } thread main { }",
	} {
		if p := mustFind(t, text); p.Main != i || p.Threads[i].Name != "main" {
			t.Errorf("%q: main is %d", text, p.Main)
		}
	}
}

// declared has two of each kind, so that slots of 1 tell more than a nought, and a local of slot 1.
const declared = "thread s { } mutex l; mutex m; cond b; cond c; chan p 1; chan q 1; var w = 0; var x = 0; array z 1; array a 1; thread t { }\nthread main { let h = 0; let k = 0;\n"

// P3.1: each statement, found.
func TestStatements(t *testing.T) {
	k, x, one := local("k", 1), variable("x", 1), num(1)
	for text, want := range map[string]api.Stmt{
		"let n = k;":      {Kind: api.StmtLet, Name: "n", Expr: k, Slot: 2, Local: true},
		"k = x;":          {Kind: api.StmtSet, Name: "k", Expr: x, Slot: 1, Local: true},
		"x = k;":          {Kind: api.StmtSet, Name: "x", Expr: k, Slot: 1},
		"a[k] = x;":       {Kind: api.StmtPut, Name: "a", Index: k, Expr: x, Slot: 1},
		"if x { }":        {Kind: api.StmtIf, Expr: x},
		"while k { }":     {Kind: api.StmtWhile, Expr: k},
		"lock m;":         {Kind: api.StmtLock, Name: "m", Slot: 1},
		"unlock m;":       {Kind: api.StmtUnlock, Name: "m", Slot: 1},
		"wait c m;":       {Kind: api.StmtWait, Name: "c", With: "m", Slot: 1, Other: 1},
		"wait b m;":       {Kind: api.StmtWait, Name: "b", With: "m", Other: 1},
		"wait c l;":       {Kind: api.StmtWait, Name: "c", With: "l", Slot: 1},
		"signal c;":       {Kind: api.StmtSignal, Name: "c", Slot: 1},
		"all c;":          {Kind: api.StmtAll, Name: "c", Slot: 1},
		"send q x;":       {Kind: api.StmtSend, Name: "q", Expr: x, Slot: 1},
		"recv q x;":       {Kind: api.StmtRecv, Name: "q", With: "x", Slot: 1, Other: 1},
		"recv q k;":       {Kind: api.StmtRecv, Name: "q", With: "k", Slot: 1, Other: 1, Local: true},
		"recv p k;":       {Kind: api.StmtRecv, Name: "p", With: "k", Other: 1, Local: true},
		"recv q h;":       {Kind: api.StmtRecv, Name: "q", With: "h", Slot: 1, Local: true},
		"spawn t;":        {Kind: api.StmtSpawn, Name: "t", Slot: 1},
		"spawn main;":     {Kind: api.StmtSpawn, Name: "main", Slot: 2},
		"join;":           {Kind: api.StmtJoin},
		"print x;":        {Kind: api.StmtPrint, Expr: x},
		"print a[k] + 1;": {Kind: api.StmtPrint, Expr: bin(api.OpAdd, cell("a", 1, k), one)},
		"print -!a[z[x]];": {Kind: api.StmtPrint,
			Expr: neg(api.Expr{Kind: api.ExprNot, Args: []api.Expr{cell("a", 1, cell("z", 0, x))}})},
		"print (h || w) * (1 - k);": {Kind: api.StmtPrint,
			Expr: bin(api.OpMul, bin(api.OpOr, local("h", 0), variable("w", 0)), bin(api.OpSub, one, k))},
	} {
		want.Pos, want.ID = at(3, 1), 2
		p := mustFind(t, declared+text+"}")
		if got := p.Threads[2].Body[2]; !reflect.DeepEqual(got, want) {
			t.Errorf("%q:\ngot  %+v\nwant %+v", text, got, want)
		}
	}
}

// found tells of all statements, in order, their IDs, and of names their slots: s is of a local, v of what is declared.
func found(p api.Prog) string {
	var l []string
	for _, s := range Stmts(p) {
		text := s.Name + string(rune('0'+s.Slot))
		if s.Local {
			text += "l"
		}
		l = append(l, text)
	}
	return strings.Join(l, " ")
}

// P3.1: locals go with their block, and their slots are used again behind it.
func TestLocals(t *testing.T) {
	for text, want := range map[string]string{
		"let a = 1; let b = 1; let c = 1;":                                       "a0l b1l c2l / 3",
		"if 1 { let a = 1; } let b = 1;":                                         "0 a0l b0l / 1",
		"if 1 { let a = 1; let b = 1; } else { let c = 1; }":                     "0 a0l b1l c0l / 2",
		"if 1 { let a = 1; } else { let a = 1; let b = 1; }":                     "0 a0l a0l b1l / 2",
		"while 1 { let a = 1; } while 1 { let a = 1; } let a = 1;":               "0 a0l 0 a0l a0l / 1",
		"let a = 1; while 1 { let b = 1; let c = 1; } let d = 1; a = d;":         "a0l 0 b1l c2l d1l a0l / 3",
		"let a = 1; if a { let b = a; if b { let c = b; } let d = b; d = a; }":   "a0l 0 b1l 0 c2l d2l d2l / 3",
		"if 1 { if 1 { if 1 { let a = 1; } let a = 1; } let a = 1; } let a = 1;": "0 0 0 a0l a0l a0l a0l / 1",
		"let a = 1; let b = a + x; recv q b; recv q x; x = b;":                   "a0l b1l q0l q0 x0 / 2",
		"x = 1;": "x0 / 0",
		"":       " / 0",
	} {
		p := mustFind(t, "var x = 1; chan q 1; thread main { "+text+"} thread t { let a = 1; let z = 1; }")
		got := found(api.Prog{Threads: p.Threads[:1]}) + " / " + string(rune('0'+p.Threads[0].Locals))
		if got != want {
			t.Errorf("%q: got %q, want %q", text, got, want)
		}
		if behind := found(api.Prog{Threads: p.Threads[1:]}); behind != "a0l z1l" || p.Threads[1].Locals != 2 {
			t.Errorf("%q: the thread behind it: %q, %d locals", text, behind, p.Threads[1].Locals)
		}
	}
}

// P3.1: a local is not there ahead of its let, in its own expression, behind its block, in another thread.
func TestLocalsThatAreNotThere(t *testing.T) {
	wantFlaw(t, "thread main {\nprint a; let a = 1; }", api.ErrUnknown, 2, 1)
	wantFlaw(t, "thread main {\nlet a = a; }", api.ErrUnknown, 2, 1)
	wantFlaw(t, "thread main { if 1 { let a = 1; }\nprint a; }", api.ErrUnknown, 2, 1)
	wantFlaw(t, "thread main { if 1 { let a = 1; } else {\nprint a; } }", api.ErrUnknown, 2, 1)
	wantFlaw(t, "thread main { while 1 { let a = 1; print a; }\na = 1; }", api.ErrUnknown, 2, 1)
	wantFlaw(t, "thread main { while 1 { if 1 { let a = 1; print a; }\na = 1; } }", api.ErrUnknown, 2, 1)
	wantFlaw(t, "chan q 1; thread main { let a = 1; recv q a; } thread t {\nrecv q a; }", api.ErrUnknown, 2, 1)
	mustFind(t, "thread main { let a = 1; while a { if a { } else { a = a + 1; } } print a; }")
}

// P3.1: numbers of statements go over all threads, each ahead of what is in it, the Body ahead of the Else.
func TestIDs(t *testing.T) {
	p := mustFind(t, everyKind)
	if p.Stmts != 25 {
		t.Error(p.Stmts, "statements")
	}
	main := p.Threads[1].Body
	choice := main[3]
	for _, pair := range [][2]int{
		{p.Threads[0].Body[0].ID, 0}, {main[0].ID, 1}, {main[2].ID, 3}, {choice.ID, 4},
		{choice.Body[0].ID, 5}, {choice.Body[4].ID, 9}, {choice.Else[0].ID, 10}, {choice.Else[2].ID, 12},
		{choice.Else[2].Body[0].ID, 13}, {choice.Else[2].Body[2].ID, 15}, {choice.Else[3].ID, 16}, {main[4].ID, 17}, {main[11].ID, 24},
	} {
		if pair[0] != pair[1] {
			t.Errorf("ID %d, want %d", pair[0], pair[1])
		}
	}
	behind := mustFind(t, "thread main { join; } thread t { } thread u { join; while 1 { join; } join; }")
	if l := behind.Threads[2].Body; l[0].ID != 1 || l[1].ID != 2 || l[1].Body[0].ID != 3 || l[2].ID != 4 || behind.Stmts != 5 {
		t.Errorf("%+v", behind)
	}
}

// unfound puts zeros where something was found.
func unfound(p api.Prog) []api.Decl {
	var l []api.Decl
	for _, t := range Copy(p).Threads {
		hide(t.Body)
		l = append(l, api.Decl{Kind: api.DeclThread, Name: t.Name, Body: t.Body})
	}
	return l
}

func hide(l []api.Stmt) {
	for i := range l {
		s := &l[i]
		s.ID, s.Slot, s.Other, s.Local = 0, 0, 0, false
		hideArgs([]*api.Expr{&s.Expr, &s.Index})
		hide(s.Body)
		hide(s.Else)
	}
}

func hideArgs(l []*api.Expr) {
	for _, e := range l {
		e.Slot, e.Local = 0, false
		for i := range e.Args {
			hideArgs([]*api.Expr{&e.Args[i]})
		}
	}
}

// P3.1: all else stays as it was handed in, places too.
func TestAllElseStays(t *testing.T) {
	l := mustParse(t, everyKind)
	var threads []api.Decl
	for _, d := range l {
		if d.Kind == api.DeclThread {
			d.Pos = api.Pos{}
			threads = append(threads, d)
		}
	}
	if got := unfound(mustFind(t, everyKind)); !reflect.DeepEqual(got, threads) {
		t.Errorf("got  %+v\nwant %+v", got, threads)
	}
}

// P3.1: what was found ahead is found anew, and what a kind does not name stays as it was handed in.
func TestFoundAnew(t *testing.T) {
	l := mustParse(t, declared+"k = x; x = k; lock m; recv q x; print x + a[k]; let n = 1; join; a[0] = 1; }")
	body := l[len(l)-1].Body
	for i := range body {
		s := &body[i]
		s.ID, s.Slot, s.Other, s.Local = 70+i, -5, 1<<40, true
		if s.Kind == api.StmtSet || s.Kind == api.StmtPrint {
			s.Expr.Slot, s.Expr.Local = 33, true
		}
		for j := range s.Expr.Args {
			s.Expr.Args[j].Slot, s.Expr.Args[j].Local = -9, j == 0
		}
	}
	p, place, fault := Find(l)
	if fault != api.OK || place != (api.Pos{}) {
		t.Fatal(place, fault)
	}
	got := p.Threads[2].Body[2:]
	k, x := local("k", 1), variable("x", 1)
	sum := bin(api.OpAdd, x, cell("a", 1, k))
	sum.Slot, sum.Local = 33, true
	want := []api.Stmt{
		{Kind: api.StmtSet, Name: "k", Expr: x, Slot: 1, Other: 1 << 40, Local: true},
		{Kind: api.StmtSet, Name: "x", Expr: k, Slot: 1, Other: 1 << 40},
		{Kind: api.StmtLock, Name: "m", Slot: 1, Other: 1 << 40, Local: true},
		{Kind: api.StmtRecv, Name: "q", With: "x", Slot: 1, Other: 1},
		{Kind: api.StmtPrint, Expr: sum, Slot: -5, Other: 1 << 40, Local: true},
		{Kind: api.StmtLet, Name: "n", Expr: num(1), Slot: 2, Other: 1 << 40, Local: true},
		{Kind: api.StmtJoin, Slot: -5, Other: 1 << 40, Local: true},
		{Kind: api.StmtPut, Name: "a", Index: num(0), Expr: num(1), Slot: 1, Other: 1 << 40, Local: true},
	}
	for i := range want {
		want[i].ID, want[i].Pos = i+2, got[i].Pos
		if !reflect.DeepEqual(got[i], want[i]) {
			t.Errorf("%d:\ngot  %+v\nwant %+v", i, got[i], want[i])
		}
	}
}

// P3.1: a program that was found, found again, is the same.
func TestFoundTwice(t *testing.T) {
	p := mustFind(t, everyKind)
	l := mustParse(t, everyKind)
	for i, d := range l {
		slot := slices.IndexFunc(p.Threads, func(x api.Thread) bool { return x.Name == d.Name })
		if slot >= 0 {
			l[i].Body = p.Threads[slot].Body
		}
	}
	if q, place, fault := Find(l); fault != api.OK || place != (api.Pos{}) || !reflect.DeepEqual(p, q) {
		t.Errorf("error %d at %v; %+v", fault, place, q)
	}
}

// P3.1: what is handed in is not changed, spare room included, and what is told shares nothing.
func TestFindIsNew(t *testing.T) {
	l, want := mustParse(t, everyKind), mustFind(t, everyKind)
	room := make([]api.Stmt, 1, 5)
	room[:5][3].Name = "spare"
	room[0] = api.Stmt{Kind: api.StmtPrint, Expr: api.Expr{Kind: api.ExprNeg, Args: append(make([]api.Expr, 0, 4), num(7))}}
	l = append(l, api.Decl{Kind: api.DeclThread, Name: "roomy", Body: room})
	p, _, fault := Find(l)
	q, _, _ := Find(l)
	if fault != api.OK || !reflect.DeepEqual(p, q) {
		t.Fatal(fault, p, q)
	}
	if !syntax.Same(l[:len(l)-1], mustParse(t, everyKind)) || !reflect.DeepEqual(l[:len(l)-1], mustParse(t, everyKind)) {
		t.Error("what was handed in is changed")
	}
	spoil(p)
	if reflect.DeepEqual(p, q) || room[0].Expr.Args[0].Num != 7 || room[:5][3].Name != "spare" || room[:5][1].Name != "" {
		t.Error("what is told shares memory with what was handed in")
	}
	for i := range l {
		spoilBlock(l[i].Body)
	}
	if q.Threads = q.Threads[:3]; !reflect.DeepEqual(q.Threads[1], want.Threads[1]) || q.Vars[0] != -3 {
		t.Error("what was handed in is kept, or two answers share memory")
	}
}

// P3.1: two statements of one answer share nothing, be it that what was handed in did.
func TestFindSharesNothingWithin(t *testing.T) {
	args := []api.Expr{num(1), num(2)}
	sum := api.Expr{Kind: api.ExprBin, Op: api.OpAdd, Args: args}
	body := []api.Stmt{{Kind: api.StmtPrint, Expr: sum}}
	choice := api.Stmt{Kind: api.StmtIf, Expr: sum, Body: body, Else: body}
	twice := []api.Stmt{choice, choice}
	p, _, fault := Find([]api.Decl{{Kind: api.DeclThread, Name: "main", Body: twice}, {Kind: api.DeclThread, Name: "t", Body: twice}})
	if fault != api.OK || p.Stmts != 12 {
		t.Fatal(fault, p.Stmts)
	}
	for i, s := range Stmts(p) {
		if s.ID != i {
			t.Errorf("the one at %d has the ID %d", i, s.ID)
		}
	}
	p.Threads[0].Body[0].Body[0].Expr.Args[0].Num = 9
	p.Threads[0].Body[0].Expr.Args[1].Num = 9
	nines := 0
	for _, s := range Stmts(p) {
		for _, x := range s.Expr.Args {
			if x.Num == 9 {
				nines++
			}
		}
	}
	if nines != 2 || args[0].Num != 1 || args[1].Num != 2 {
		t.Error("parts share memory:", nines, args)
	}
}
