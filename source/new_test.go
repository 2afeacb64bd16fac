package source

import (
	"fmt"
	"math"
	"reflect"
	"slices"
	"strings"
	"testing"

	"warp/api"
	"warp/names"
)

// everyKind holds each kind of declarations, statements and expressions; main is the second of three threads and has all statements, the third one a single one. Of no two kinds there are as many: 4 variables, 2 arrays, 5 mutexes, 6 conditions, 7 channels, 3 threads, 1 local.
const everyKind = `var x = 1; var y = 2; var v2 = 3; var v3 = 4; array a 2; array b 3;
mutex l; mutex m; mutex m2; mutex m3; mutex m4; cond c; cond d; cond c2; cond c3; cond c4; cond c5;
chan p 1; chan q 16; chan q2 1; chan q3 1; chan q4 1; chan q5 1; chan q6 1;
thread first { }
thread main {
	let k = 1;
	x = 2;
	k = 3;
	a[y] = x;
	if x { join; } else { join; }
	while -k { join; }
	lock m;
	unlock m;
	wait d m;
	signal d;
	all d;
	send q !x;
	recv q y;
	recv q k;
	spawn last;
	join;
	print b[k + 1];
}
thread last { print 7; }`

// stmtAt are the places of main's statements in everyKind.
const (
	letAt = iota
	setAt
	setLocalAt
	putAt
	ifAt
	whileAt
	lockAt
	unlockAt
	waitAt
	signalAt
	allAt
	sendAt
	recvAt
	recvLocalAt
	spawnAt
	joinAt
	printAt
)

// wantNew fails unless New of the program answers so, and with a state or none as it must be.
func wantNew(t *testing.T, what string, p api.Prog, may bool) {
	t.Helper()
	s, fault := New(p)
	if may && (s == nil || fault != api.OK) || !may && (s != nil || fault != api.ErrArg) {
		t.Errorf("%s: error %d, a state %v; may it be: %v", what, fault, s != nil, may)
	}
}

// numbers are ones that no slot, no count and no kind is, but for those of everyKind's bounds.
var numbers = []int{math.MinInt, math.MinInt64 + 1, -1 << 32, math.MinInt32, -2, -1, 1 << 16, math.MaxInt32, 1 << 31, 1 << 32, math.MaxInt}

// P5.1: each number of a program that is found, at its bounds, one past them, and far away.
func TestNumbersOfPrograms(t *testing.T) {
	type field struct {
		name        string
		least, most int
		set         func(p *api.Prog, n int)
	}
	main := func(p *api.Prog, at int) *api.Stmt { return &p.Threads[1].Body[at] }
	fields := []field{
		{"Main", 0, 2, func(p *api.Prog, n int) { p.Main = n }},
		{"a room", 1, 16, func(p *api.Prog, n int) { p.Chans[1] = n }},
		{"cells of the first array", 1, 253, func(p *api.Prog, n int) { p.Arrays[0] = n }},
		{"cells of the last array", 1, 254, func(p *api.Prog, n int) { p.Arrays[1] = n }},
		{"a variable", math.MinInt32, math.MaxInt32, func(p *api.Prog, n int) { p.Vars[1] = int64(n) }},
		{"Mutexes", 2, 5 + 64 - 27, func(p *api.Prog, n int) { p.Mutexes = n }},
		{"Conds", 2, 6 + 64 - 27, func(p *api.Prog, n int) { p.Conds = n }},
		{"Stmts", 21, 21, func(p *api.Prog, n int) { p.Stmts = n }},
		{"Locals of main", 1, 32, func(p *api.Prog, n int) { p.Threads[1].Locals = n }},
		{"Locals of a thread without any", 0, 32, func(p *api.Prog, n int) { p.Threads[0].Locals = n }},
		{"ID of the first", 0, 0, func(p *api.Prog, n int) { main(p, letAt).ID = n }},
		{"ID in a body", 5, 5, func(p *api.Prog, n int) { main(p, ifAt).Body[0].ID = n }},
		{"ID in an else", 6, 6, func(p *api.Prog, n int) { main(p, ifAt).Else[0].ID = n }},
		{"ID of the while", 7, 7, func(p *api.Prog, n int) { main(p, whileAt).ID = n }},
		{"ID of main's last", 19, 19, func(p *api.Prog, n int) { main(p, printAt).ID = n }},
		{"ID of the last thread's", 20, 20, func(p *api.Prog, n int) { p.Threads[2].Body[0].ID = n }},
		{"Slot of let", 0, 0, func(p *api.Prog, n int) { main(p, letAt).Slot = n }},
		{"Slot of set", 0, 3, func(p *api.Prog, n int) { main(p, setAt).Slot = n }},
		{"Slot of a set local", 0, 0, func(p *api.Prog, n int) { main(p, setLocalAt).Slot = n }},
		{"Slot of put", 0, 1, func(p *api.Prog, n int) { main(p, putAt).Slot = n }},
		{"Slot of lock", 0, 4, func(p *api.Prog, n int) { main(p, lockAt).Slot = n }},
		{"Slot of unlock", 0, 4, func(p *api.Prog, n int) { main(p, unlockAt).Slot = n }},
		{"Slot of wait", 0, 5, func(p *api.Prog, n int) { main(p, waitAt).Slot = n }},
		{"Other of wait", 0, 4, func(p *api.Prog, n int) { main(p, waitAt).Other = n }},
		{"Slot of signal", 0, 5, func(p *api.Prog, n int) { main(p, signalAt).Slot = n }},
		{"Slot of all", 0, 5, func(p *api.Prog, n int) { main(p, allAt).Slot = n }},
		{"Slot of send", 0, 6, func(p *api.Prog, n int) { main(p, sendAt).Slot = n }},
		{"Slot of recv", 0, 6, func(p *api.Prog, n int) { main(p, recvAt).Slot = n }},
		{"Other of recv", 0, 3, func(p *api.Prog, n int) { main(p, recvAt).Other = n }},
		{"Slot of recv to a local", 0, 6, func(p *api.Prog, n int) { main(p, recvLocalAt).Slot = n }},
		{"Other of recv to a local", 0, 0, func(p *api.Prog, n int) { main(p, recvLocalAt).Other = n }},
		{"Slot of spawn", 0, 2, func(p *api.Prog, n int) { main(p, spawnAt).Slot = n }},
		{"a number", math.MinInt32, math.MaxInt32, func(p *api.Prog, n int) { main(p, letAt).Expr.Num = int64(n) }},
		{"a number in an index", math.MinInt32, math.MaxInt32, func(p *api.Prog, n int) { main(p, printAt).Expr.Args[0].Args[1].Num = int64(n) }},
		{"Kind of an expression", 1, 1, func(p *api.Prog, n int) { main(p, letAt).Expr.Kind = api.ExprKind(n) }},
		{"Kind of a part", 1, 1, func(p *api.Prog, n int) { main(p, printAt).Expr.Args[0].Args[1].Kind = api.ExprKind(n) }},
		{"Op", 1, 11, func(p *api.Prog, n int) { main(p, printAt).Expr.Args[0].Op = api.Op(n) }},
		{"Slot of a name", 0, 3, func(p *api.Prog, n int) { main(p, putAt).Expr.Slot = n }},
		{"Slot of a name in an index", 0, 3, func(p *api.Prog, n int) { main(p, putAt).Index.Slot = n }},
		{"Slot of a local's name", 0, 0, func(p *api.Prog, n int) { main(p, whileAt).Expr.Args[0].Slot = n }},
		{"Slot of a cell", 0, 1, func(p *api.Prog, n int) { main(p, printAt).Expr.Slot = n }},
	}
	for _, f := range fields {
		tried := append([]int{f.least - 1, f.least, f.least + 1, f.most - 1, f.most, f.most + 1, 0, 1}, numbers...)
		for _, n := range tried {
			p := mustFind(t, everyKind)
			// A kind of expressions that has parts is asked for these; and 2 is a name, whose slot is there.
			if strings.HasPrefix(f.name, "Kind") && n == 2 {
				continue
			}
			f.set(&p, n)
			wantNew(t, fmt.Sprintf("%s %d", f.name, n), p, f.least <= n && n <= f.most)
		}
	}
}

// P5.1: a statement is of a kind that there is.
func TestNoKind(t *testing.T) {
	for _, kind := range append([]int{0, 16, 17, 99}, numbers...) {
		for at := range printAt + 1 {
			p := mustFind(t, everyKind)
			p.Threads[1].Body[at].Kind = api.StmtKind(kind)
			wantNew(t, fmt.Sprint("Kind ", kind), p, false)
		}
	}
}

// P5.1: names are counted together, each kind of them.
func TestMaxNames(t *testing.T) {
	room := func(p *api.Prog) int { return api.MaxNames - 27 }
	for name, grow := range map[string]func(p *api.Prog, n int){
		"Vars":    func(p *api.Prog, n int) { p.Vars = append(p.Vars, make([]int64, n)...) },
		"Arrays":  func(p *api.Prog, n int) { p.Arrays = append(p.Arrays, slices.Repeat([]int{1}, n)...) },
		"Mutexes": func(p *api.Prog, n int) { p.Mutexes += n },
		"Conds":   func(p *api.Prog, n int) { p.Conds += n },
		"Chans":   func(p *api.Prog, n int) { p.Chans = append(p.Chans, slices.Repeat([]int{1}, n)...) },
		"Threads": func(p *api.Prog, n int) { p.Threads = append(p.Threads, make([]api.Thread, n)...) },
	} {
		for _, more := range []int{0, 1, 36, 37, 38, 39, 1000} {
			p := mustFind(t, everyKind)
			grow(&p, more)
			wantNew(t, fmt.Sprint(name, " and ", more), p, more <= room(&p))
		}
	}
	for _, pair := range [][2]int{{math.MaxInt, math.MaxInt}, {math.MaxInt, 1}, {1, math.MaxInt}, {-1, 4}, {4, -1}, {math.MinInt, math.MinInt}, {math.MinInt, math.MaxInt}, {64, -2}} {
		p := mustFind(t, everyKind)
		p.Mutexes, p.Conds = pair[0], pair[1]
		wantNew(t, fmt.Sprint(pair), p, false)
		q := mustFind(t, "thread main { }")
		q.Mutexes, q.Conds = pair[0], pair[1]
		wantNew(t, fmt.Sprint(pair), q, false)
	}
	p := mustFind(t, "thread main { }")
	p.Mutexes, p.Conds = 31, 32
	wantNew(t, "31 and 32", p, true)
	p.Conds++
	wantNew(t, "31 and 33", p, false)
}

// P5.1: cells are counted together.
func TestMaxCells(t *testing.T) {
	for _, c := range []struct {
		arrays []int
		may    bool
	}{
		{nil, true}, {[]int{1}, true}, {[]int{256}, true}, {[]int{257}, false}, {[]int{0}, false}, {[]int{-1}, false}, {[]int{128, 128}, true}, {[]int{128, 129}, false},
		{[]int{256, 1}, false}, {[]int{1, 256}, false}, {[]int{256, 0}, false}, {[]int{257, -1}, false}, {[]int{-1, 257}, false}, {[]int{math.MaxInt, math.MaxInt, 3}, false},
		{[]int{math.MinInt, math.MinInt, 1}, false}, {[]int{1, math.MaxInt}, false}, {slices.Repeat([]int{4}, 63), true}, {slices.Repeat([]int{5}, 51), true}, {slices.Repeat([]int{5}, 52), false},
	} {
		wantNew(t, fmt.Sprint(c.arrays), api.Prog{Arrays: c.arrays, Threads: make([]api.Thread, 1)}, c.may)
	}
	for _, c := range []struct {
		rooms []int
		may   bool
	}{{[]int{1, 16}, true}, {[]int{0, 1}, false}, {[]int{1, 17}, false}, {[]int{-1}, false}, {[]int{math.MaxInt}, false}, {[]int{math.MinInt}, false}} {
		wantNew(t, fmt.Sprint(c.rooms), api.Prog{Chans: c.rooms, Threads: make([]api.Thread, 1)}, c.may)
	}
	for v, may := range map[int64]bool{math.MinInt32: true, math.MaxInt32: true, math.MinInt32 - 1: false, math.MaxInt32 + 1: false, math.MinInt64: false, math.MaxInt64: false, 1 << 32: false} {
		wantNew(t, fmt.Sprint(v), api.Prog{Vars: []int64{0, v, 0}, Threads: make([]api.Thread, 1)}, may)
	}
}

// P5.1: of threads the main one must be there.
func TestNoMain(t *testing.T) {
	wantNew(t, "nothing", api.Prog{}, false)
	wantNew(t, "no threads", api.Prog{Vars: []int64{1}}, false)
	for _, at := range append([]int{2, 3}, numbers...) {
		wantNew(t, fmt.Sprint("main at ", at), api.Prog{Threads: make([]api.Thread, 2), Main: at}, false)
	}
	for at := range 2 {
		p := api.Prog{Threads: []api.Thread{{Locals: 3}, {Locals: 5}}, Main: at}
		s := mustStart(t, p)
		if v, _ := s.Thread(0); v.Decl != at || len(v.Locals) != 3+2*at {
			t.Errorf("main at %d: %+v", at, v)
		}
	}
}

// P5.1: a Body and an Else stand where the kind has one alone.
func TestBodies(t *testing.T) {
	extra := []api.Stmt{{Kind: api.StmtJoin}}
	for at := range printAt + 1 {
		for _, name := range []string{"Body", "Else"} {
			p := mustFind(t, everyKind)
			s := &p.Threads[1].Body[at]
			if name == "Body" {
				s.Body = append(s.Body, extra...)
			} else {
				s.Else = append(s.Else, extra...)
			}
			may := s.Kind == api.StmtIf || s.Kind == api.StmtWhile && name == "Body"
			wantNew(t, fmt.Sprintf("%s of %d", name, s.Kind), numbered(p), may)
			s.Body, s.Else = []api.Stmt{}, []api.Stmt{}
			wantNew(t, fmt.Sprintf("an empty %s of %d", name, s.Kind), numbered(p), true)
		}
	}
}

// numbered is the same program with the IDs that its statements must have.
func numbered(p api.Prog) api.Prog {
	p = names.Copy(p)
	p.Stmts = 0
	var block func(l []api.Stmt)
	block = func(l []api.Stmt) {
		for i := range l {
			l[i].ID = p.Stmts
			p.Stmts++
			block(l[i].Body)
			block(l[i].Else)
		}
	}
	for _, t := range p.Threads {
		block(t.Body)
	}
	return p
}

// exprOf is a program that prints one expression.
func exprOf(e api.Expr) api.Prog {
	return api.Prog{
		Vars: []int64{1}, Arrays: []int{2}, Stmts: 1,
		Threads: []api.Thread{{Locals: 1, Body: []api.Stmt{{Kind: api.StmtPrint, Expr: e}}}},
	}
}

// P5.1: an expression has just as many Args as its Kind names, each of which may be; what it does not name is not asked.
func TestArgs(t *testing.T) {
	one := api.Expr{Kind: api.ExprNum}
	for kind := api.ExprKind(-1); kind <= api.ExprBin+2; kind++ {
		for args := range 5 {
			e := api.Expr{Kind: kind, Op: api.OpAdd, Args: slices.Repeat([]api.Expr{one}, args)}
			want, is := map[api.ExprKind]int{api.ExprNum: 0, api.ExprName: 0, api.ExprCell: 1, api.ExprNeg: 1, api.ExprNot: 1, api.ExprBin: 2}[kind]
			wantNew(t, fmt.Sprintf("%d Args of %d", args, kind), exprOf(e), is && args == want)
			if !is || args != want {
				continue
			}
			for i := range args {
				e.Args[i] = api.Expr{}
				wantNew(t, fmt.Sprintf("Arg %d of %d without a kind", i, kind), exprOf(e), false)
				e.Args[i] = api.Expr{Kind: api.ExprName, Slot: 1}
				wantNew(t, fmt.Sprintf("Arg %d of %d of a variable that is not there", i, kind), exprOf(e), false)
				e.Args[i] = one
			}
		}
	}
	odd := api.Expr{Num: math.MinInt64, Name: "\xff not a name at all, and too long for one", Slot: -7, Local: true, Op: 99}
	for kind, keep := range map[api.ExprKind]func(e *api.Expr){
		api.ExprNum:  func(e *api.Expr) { e.Num = 3 },
		api.ExprName: func(e *api.Expr) { e.Slot = 0 },
		api.ExprCell: func(e *api.Expr) { e.Slot, e.Args = 0, []api.Expr{one} },
		api.ExprNeg:  func(e *api.Expr) { e.Args = []api.Expr{one} },
		api.ExprNot:  func(e *api.Expr) { e.Args = []api.Expr{one} },
		api.ExprBin:  func(e *api.Expr) { e.Op, e.Args = api.OpOr, []api.Expr{one, one} },
	} {
		e := odd
		e.Kind = kind
		keep(&e)
		wantNew(t, fmt.Sprintf("what %d does not name", kind), exprOf(e), true)
		s := mustStart(t, exprOf(e))
		if ev, fault := s.Step(0); fault != api.OK || ev.Trap != api.TrapNone || !ev.Told {
			t.Errorf("what %d does not name: %s, error %d", kind, told(ev), fault)
		}
	}
}

// P5.1: a let's is a local; of others Local tells whether it is one, whether it is there at that place or not.
func TestLocals(t *testing.T) {
	for _, local := range []bool{false, true} {
		for locals := range 3 {
			for slot := -1; slot < 4; slot++ {
				p := api.Prog{Vars: make([]int64, 3), Chans: []int{1}, Stmts: 1, Threads: []api.Thread{{Locals: locals, Body: make([]api.Stmt, 1)}}}
				there := 0 <= slot && (local && slot < locals || !local && slot < 3)
				what := fmt.Sprintf("of %d locals, %d, %v", locals, slot, local)
				s := &p.Threads[0].Body[0]
				*s = api.Stmt{Kind: api.StmtLet, Slot: slot, Local: local, Expr: api.Expr{Kind: api.ExprNum}}
				wantNew(t, "let "+what, p, local && there)
				s.Kind = api.StmtSet
				wantNew(t, "set "+what, p, there)
				*s = api.Stmt{Kind: api.StmtRecv, Other: slot, Local: local}
				wantNew(t, "recv "+what, p, there)
				*s = api.Stmt{Kind: api.StmtPrint, Expr: api.Expr{Kind: api.ExprName, Slot: slot, Local: local}}
				wantNew(t, "print "+what, p, there)
			}
		}
	}
	p := mustFind(t, "var x = 1; thread main { if x { let k = 1; let j = 2; } x = 3; } thread t { x = 4; }")
	p.Threads[0].Body[1].Expr = api.Expr{Kind: api.ExprName, Slot: 1, Local: true}
	wantNew(t, "a local that is not there at that place", p, true)
	p.Threads[1].Body[0].Expr = api.Expr{Kind: api.ExprName, Slot: 0, Local: true}
	wantNew(t, "a local of another thread", p, false)
}

// P5.1: names, texts and places are not asked, nor what a kind does not name.
func TestNotAsked(t *testing.T) {
	p := mustFind(t, everyKind)
	s, want := mustStart(t, p), mustStart(t, p)
	odd := api.Expr{Kind: 77, Args: make([]api.Expr, 9)}
	p.Names = api.Names{Vars: []string{"", "\xff", "x"}, Chans: make([]string, 100)}
	for i := range p.Threads {
		p.Threads[i].Name = "main"
		for j := range p.Threads[i].Body {
			x := &p.Threads[i].Body[j]
			x.Name, x.With, x.Pos = "\xff", "none at all that is there", api.Pos{Line: -9, Col: math.MaxInt}
			if x.Kind != api.StmtPut {
				x.Index = odd
			}
			switch x.Kind {
			case api.StmtLet, api.StmtSet, api.StmtPut, api.StmtIf, api.StmtWhile, api.StmtSend, api.StmtPrint:
			default:
				x.Expr = odd
			}
			switch x.Kind {
			case api.StmtIf, api.StmtWhile, api.StmtJoin, api.StmtPrint:
				x.Slot = -5
			}
			if x.Kind != api.StmtWait && x.Kind != api.StmtRecv {
				x.Other = 1 << 40
			}
			if x.Kind != api.StmtLet && x.Kind != api.StmtSet && x.Kind != api.StmtRecv {
				x.Local = true
			}
		}
	}
	s = mustStart(t, p)
	for pick := range 60 {
		a, fault := s.Step(pick)
		b, other := want.Step(pick)
		if !reflect.DeepEqual(a, b) || fault != other {
			t.Fatalf("got %s, error %d; want %s, error %d", told(a), fault, told(b), other)
		}
	}
	if !Same(s, want) {
		t.Error("what is not asked changes what is done")
	}
}

// P5.1: how deep statements and expressions may be.
func TestDepth(t *testing.T) {
	for depth := 1; depth < 60; depth++ {
		e := api.Expr{Kind: api.ExprNum, Num: 1}
		left := e
		for range depth - 1 {
			e = api.Expr{Kind: api.ExprNeg, Args: []api.Expr{e}}
			left = api.Expr{Kind: api.ExprBin, Op: api.OpSub, Args: []api.Expr{left, {Kind: api.ExprNum}}}
		}
		wantNew(t, fmt.Sprint("- in -, ", depth), exprOf(e), depth <= api.MaxDepth)
		wantNew(t, fmt.Sprint("parts at the left, ", depth), exprOf(left), depth <= api.MaxDepth)
		for _, put := range []func(s *api.Stmt, l []api.Stmt){
			func(s *api.Stmt, l []api.Stmt) { s.Kind, s.Body = api.StmtIf, l },
			func(s *api.Stmt, l []api.Stmt) { s.Kind, s.Else = api.StmtIf, l },
			func(s *api.Stmt, l []api.Stmt) { s.Kind, s.Body = api.StmtWhile, l },
		} {
			l := []api.Stmt{{Kind: api.StmtJoin}}
			empty := []api.Stmt{}
			for range depth - 1 {
				s := api.Stmt{Expr: api.Expr{Kind: api.ExprNum, Num: 1}}
				put(&s, l)
				l = []api.Stmt{s}
				put(&s, empty)
				empty = []api.Stmt{s}
			}
			wantNew(t, fmt.Sprint("blocks, ", depth), numbered(api.Prog{Threads: []api.Thread{{Body: l}}}), depth <= api.MaxDepth)
			wantNew(t, fmt.Sprint("blocks, the last one empty, ", depth), numbered(api.Prog{Threads: []api.Thread{{Body: empty}}}), depth-1 <= api.MaxDepth)
		}
	}
}

// P5.1: how many statements may be, in one thread or in several.
func TestMaxStmts(t *testing.T) {
	for _, n := range []int{0, 1, 511, 512, 513, 1000, 30000} {
		p := numbered(api.Prog{Threads: []api.Thread{{Body: slices.Repeat([]api.Stmt{{Kind: api.StmtJoin}}, n)}}})
		wantNew(t, fmt.Sprint(n, " statements"), p, n <= api.MaxStmts)
		p.Threads = append(p.Threads, api.Thread{}, api.Thread{Body: []api.Stmt{{Kind: api.StmtJoin, ID: n}}})
		p.Stmts++
		wantNew(t, fmt.Sprint(n, " statements, and one in another thread"), p, n < api.MaxStmts)
		if n == api.MaxStmts {
			s := mustStart(t, numbered(api.Prog{Threads: p.Threads[:1]}))
			if events, o := s.Run(make([]int, 1000)...); len(events) != 512 || o != done || events[511].Stmt != 511 {
				t.Errorf("%d events, outcome %v", len(events), o)
			}
		}
	}
	p := mustFind(t, everyKind)
	p.Threads[1].Body[setAt].ID, p.Threads[1].Body[letAt].ID = 0, 1
	wantNew(t, "IDs in another order", p, false)
	p = mustFind(t, everyKind)
	p.Threads[0], p.Threads[2] = p.Threads[2], p.Threads[0]
	wantNew(t, "threads in another order", p, false)
	wantNew(t, "threads in another order, numbered", numbered(p), true)
}

// P5.1: programs of any size are looked at, and refused soon.
func TestHuge(t *testing.T) {
	e := api.Expr{Kind: api.ExprNum}
	for range 300000 {
		e = api.Expr{Kind: api.ExprNot, Args: []api.Expr{e}}
	}
	wantNew(t, "an expression that is very deep", exprOf(e), false)
	p := exprOf(e)
	p.Threads[0].Body[0].Kind = api.StmtJoin
	wantNew(t, "a very deep one that is not asked", p, true)
	both := api.Expr{Kind: api.ExprNum}
	for range 200 {
		both = api.Expr{Kind: api.ExprBin, Op: api.OpAdd, Args: []api.Expr{both, both}}
	}
	wantNew(t, "an expression of a great many parts", exprOf(both), false)
	l := []api.Stmt{{Kind: api.StmtJoin}}
	for range 200 {
		s := api.Stmt{Kind: api.StmtIf, Expr: api.Expr{Kind: api.ExprNum}, Body: l, Else: l}
		l = []api.Stmt{s, s}
	}
	wantNew(t, "a great many blocks", api.Prog{Threads: []api.Thread{{Body: l}}}, false)
	wantNew(t, "many variables", api.Prog{Vars: make([]int64, 1<<20), Threads: make([]api.Thread, 1)}, false)
	wantNew(t, "many threads", api.Prog{Threads: make([]api.Thread, 1<<20)}, false)
}

// P5.1: what is handed in is not changed, spare room included, and not kept.
func TestNewKeepsNothing(t *testing.T) {
	p := mustFind(t, everyKind)
	p.Vars = append(make([]int64, 0, 9), p.Vars...)
	p.Vars[:9][5] = 99
	p.Threads[1].Body = append(make([]api.Stmt, 0, 40), p.Threads[1].Body...)
	p.Threads[1].Body[:40][30].Name = "spare"
	ahead := names.Copy(p)
	s, want := mustStart(t, p), mustStart(t, ahead)
	if !reflect.DeepEqual(p, ahead) || p.Vars[:9][5] != 99 || p.Threads[1].Body[:40][30].Name != "spare" {
		t.Error("what was handed in is changed")
	}
	spoil(p)
	for pick := range 60 {
		a, _ := s.Step(pick)
		b, _ := want.Step(pick)
		if !reflect.DeepEqual(a, b) || !Same(s, want) {
			t.Fatalf("got %s, want %s", told(a), told(b))
		}
	}
}

// spoil changes all that a program holds, spare room included.
func spoil(p api.Prog) {
	for i := range p.Threads {
		spoilBlock(p.Threads[i].Body)
	}
	spoilList(p.Vars, 77)
	spoilList(p.Arrays, 77)
	spoilList(p.Chans, 77)
	spoilList(p.Threads, api.Thread{Locals: 77})
}

func spoilBlock(l []api.Stmt) {
	for i := range l {
		spoilBlock(l[i].Body)
		spoilBlock(l[i].Else)
		spoilArgs(l[i].Expr.Args)
		spoilArgs(l[i].Index.Args)
	}
	spoilList(l, api.Stmt{Kind: api.StmtJoin, ID: 77})
}

func spoilArgs(l []api.Expr) {
	for i := range l {
		spoilArgs(l[i].Args)
	}
	spoilList(l, api.Expr{Kind: 77, Slot: 77})
}

func spoilList[T any](l []T, x T) {
	l = l[:cap(l)]
	for i := range l {
		l[i] = x
	}
}

// P5.2: Cells of a program counts what stands there, whatever the program is.
func TestCellsOfPrograms(t *testing.T) {
	for _, c := range []struct {
		p    api.Prog
		want int
	}{
		{api.Prog{}, 0},
		{api.Prog{Vars: make([]int64, 3)}, 3},
		{api.Prog{Arrays: []int{2, 5}}, 7},
		{api.Prog{Vars: make([]int64, 3), Arrays: []int{2, 5}}, 10},
		{api.Prog{Vars: make([]int64, 1000), Arrays: []int{-3, 0, 100000}}, 100997},
		{api.Prog{Arrays: []int{math.MaxInt, math.MinInt}}, -1},
		{api.Prog{Vars: []int64{1}, Arrays: []int{-1}, Mutexes: 7, Conds: 8, Chans: []int{9}, Threads: make([]api.Thread, 3), Stmts: 5}, 0},
		{mustFind(t, everyKind), 9},
	} {
		if got := Cells(c.p); got != c.want {
			t.Errorf("%d variables, arrays %v: %d, want %d", len(c.p.Vars), c.p.Arrays, got, c.want)
		}
	}
	if got := len(start(t, everyKind).Cells()); got != 9 {
		t.Error("a state has", got)
	}
}
