package names

import (
	"math"
	"reflect"
	"testing"

	"warp/api"
)

// numbered is a statement with an ID, and with blocks, whatever its kind.
func numbered(id int, blocks ...[]api.Stmt) api.Stmt {
	s := api.Stmt{Kind: api.StmtJoin, ID: id}
	if len(blocks) > 0 {
		s.Body = blocks[0]
	}
	if len(blocks) > 1 {
		s.Else = blocks[1]
	}
	return s
}

// made is a program that no call made: IDs stand in no order, some twice, and kinds have blocks that they do not name.
func made() api.Prog {
	return api.Prog{Stmts: -4, Main: 99, Threads: []api.Thread{
		{Name: "", Locals: -1},
		{Body: []api.Stmt{
			numbered(5, []api.Stmt{numbered(3), numbered(-8, nil, []api.Stmt{numbered(7)})}, []api.Stmt{numbered(2), numbered(2)}),
			numbered(math.MaxInt),
		}},
		{Body: []api.Stmt{}},
		{Body: []api.Stmt{numbered(5), numbered(0, []api.Stmt{}, []api.Stmt{numbered(math.MinInt)}), numbered(3)}},
	}}
}

// P3.2: all statements, in the order of the text, whatever their IDs.
func TestStmts(t *testing.T) {
	var ids []int
	for _, s := range Stmts(made()) {
		ids = append(ids, s.ID)
	}
	if want := []int{5, 3, -8, 7, 2, 2, math.MaxInt, 5, 0, math.MinInt, 3}; !reflect.DeepEqual(ids, want) {
		t.Errorf("got %v, want %v", ids, want)
	}
	for _, p := range []api.Prog{{}, {Stmts: 5}, {Threads: []api.Thread{{}, {Name: "main"}}}, mustFind(t, "thread t { } thread main { }")} {
		if l := Stmts(p); len(l) != 0 {
			t.Errorf("%+v: %+v", p, l)
		}
	}
	p := mustFind(t, everyKind)
	l := Stmts(p)
	if len(l) != p.Stmts {
		t.Fatal(len(l), p.Stmts)
	}
	for i, s := range l {
		if s.ID != i || i > 0 && s.Pos.Line <= l[i-1].Pos.Line {
			t.Errorf("at %d: %d, at %v", i, s.ID, s.Pos)
		}
	}
}

// P3.2: each statement with what is in it, as it stands there.
func TestStmtsWhole(t *testing.T) {
	p := mustFind(t, everyKind)
	l, main := Stmts(p), p.Threads[1].Body
	choice := main[3]
	for i, want := range map[int]api.Stmt{0: p.Threads[0].Body[0], 1: main[0], 4: choice, 5: choice.Body[0], 10: choice.Else[0], 12: choice.Else[2], 15: choice.Else[2].Body[2], 24: main[11]} {
		if !reflect.DeepEqual(l[i], want) {
			t.Errorf("%d:\ngot  %+v\nwant %+v", i, l[i], want)
		}
	}
	if odd := made(); !reflect.DeepEqual(Stmts(odd)[0], odd.Threads[1].Body[0]) {
		t.Error("a statement of a program that no call made is not whole")
	}
}

// P3.2: what is told is new memory, and shares none within itself.
func TestStmtsIsNew(t *testing.T) {
	p := mustFind(t, everyKind)
	first, second := Stmts(p), Stmts(p)
	for i := range first {
		spoilBlock(first[i : i+1 : i+1])
		for j := i + 1; j < len(first); j++ {
			if !reflect.DeepEqual(first[j], second[j]) {
				t.Fatalf("%d and %d share memory", i, j)
			}
		}
	}
	if !reflect.DeepEqual(p, mustFind(t, everyKind)) || !reflect.DeepEqual(second, Stmts(p)) {
		t.Error("what was handed in is changed, or two answers share memory")
	}
	room := make([]api.Stmt, 1, 4)
	room[0] = numbered(1, make([]api.Stmt, 1, 4))
	for _, s := range Stmts(api.Prog{Threads: []api.Thread{{Body: room}}}) {
		spoilBlock(s.Body)
	}
	if room[:4][1].Name != "" || room[0].Body[:4][1].Name != "" || room[0].Body[0].Name != "" {
		t.Error("the room behind what was handed in is changed")
	}
}

// P3.2: in which thread a statement is.
func TestThread(t *testing.T) {
	p := mustFind(t, everyKind)
	for id := range 25 {
		want := 1
		if id == 0 {
			want = 0
		}
		if got, is := Thread(p, id); got != want || !is {
			t.Errorf("%d: %d, %v", id, got, is)
		}
	}
	last := mustFind(t, "thread a { } thread main { join; while 1 { join; } } thread b { } thread c { if 1 { } else { join; } }")
	for id, want := range []int{1, 1, 1, 3, 3} {
		if got, is := Thread(last, id); got != want || !is {
			t.Errorf("%d: %d, %v", id, got, is)
		}
	}
	for _, p := range []api.Prog{{}, {Stmts: 1 << 40}, {Threads: make([]api.Thread, 3)}, p, last} {
		for _, id := range []int{-1, math.MinInt, 25, 26, 1 << 32, math.MaxInt} {
			if got, is := Thread(p, id); got != 0 || is {
				t.Errorf("%d: %d, %v", id, got, is)
			}
		}
	}
	for id, want := range map[int]int{5: 1, 3: 1, -8: 1, 7: 1, 2: 1, math.MaxInt: 1, 0: 3, math.MinInt: 3} {
		if got, is := Thread(made(), id); got != want || !is {
			t.Errorf("of a program that no call made, %d: %d, %v", id, got, is)
		}
	}
	if got, is := Thread(made(), 4); got != 0 || is {
		t.Error(got, is)
	}
}

// whole is a program in which each field tells something, whether it may be or not.
func whole() api.Prog {
	deep := numbered(-7, []api.Stmt{numbered(9)}, []api.Stmt{numbered(10), numbered(11, []api.Stmt{numbered(12)})})
	deep.Name, deep.With, deep.Pos, deep.Slot, deep.Other, deep.Local = "\xff", "w", at(-1, 7), 8, -9, true
	deep.Expr, deep.Index = bin(99, cell("c", -3, local("l", 1)), num(math.MinInt64)), neg(neg(num(7)))
	deep.Body[0].Index = neg(num(3))
	return api.Prog{
		Vars: []int64{1, math.MinInt64}, Arrays: []int{-1, 7}, Mutexes: -3, Conds: 1 << 40, Chans: []int{0, 9},
		Threads: []api.Thread{{Name: "t", Locals: 4, Body: []api.Stmt{deep, numbered(1)}}, {}, {Name: "u", Locals: -1}},
		Main:    -5, Stmts: 77,
		Names: api.Names{Vars: []string{"a"}, Arrays: []string{"b", ""}, Mutexes: []string{"c"}, Conds: []string{"d"}, Chans: []string{"e", "f"}},
	}
}

// P3.2: another one with the same, whatever the program is.
func TestCopy(t *testing.T) {
	for _, p := range []api.Prog{{}, made(), whole(), mustFind(t, everyKind), mustFind(t, "thread main { }")} {
		if got := Copy(p); !reflect.DeepEqual(got, p) {
			t.Errorf("got  %+v\nwant %+v", got, p)
		}
	}
	empty := Copy(api.Prog{Vars: []int64{}, Arrays: []int{}, Chans: []int{}, Threads: []api.Thread{}, Names: api.Names{Vars: []string{}, Chans: []string{}}})
	if len(empty.Vars)+len(empty.Arrays)+len(empty.Chans)+len(empty.Threads)+len(empty.Names.Vars)+len(empty.Names.Chans) != 0 {
		t.Errorf("%+v", empty)
	}
}

// P3.2: a copy shares nothing with what it was made of, spare room included, nor with another copy.
func TestCopyIsNew(t *testing.T) {
	p := whole()
	first, second := Copy(p), Copy(p)
	spoil(first)
	if !reflect.DeepEqual(p, whole()) || !reflect.DeepEqual(second, whole()) {
		t.Error("a copy shares memory")
	}
	spoil(p)
	if !reflect.DeepEqual(second, whole()) {
		t.Error("what was handed in is kept")
	}
	roomy := api.Prog{Vars: make([]int64, 1, 4), Arrays: make([]int, 0, 4), Threads: make([]api.Thread, 1, 4), Names: api.Names{Conds: make([]string, 1, 4)}}
	spoil(Copy(roomy))
	if roomy.Vars[:4][2] != 0 || roomy.Arrays[:4][0] != 0 || roomy.Threads[:4][1].Name != "" || roomy.Names.Conds[:4][3] != "" {
		t.Error("the room behind what was handed in is changed")
	}
	again := api.Prog{Arrays: []int{1, 2}}
	again.Chans = again.Arrays
	got := Copy(again)
	got.Arrays[0] = 9
	if got.Chans[0] != 1 || again.Arrays[0] != 1 {
		t.Error("parts of one answer share memory")
	}
}

// Handed in is not changed: by none of the calls.
func TestNothingIsChanged(t *testing.T) {
	p := whole()
	Stmts(p)
	Thread(p, 12)
	Thread(p, 4)
	Copy(p)
	if !reflect.DeepEqual(p, whole()) {
		t.Error("what was handed in is changed")
	}
}

// P3.2: programs that no call made may be of any depth.
func TestHugePrograms(t *testing.T) {
	const deep = 300000
	s := api.Stmt{Kind: api.StmtPrint, Expr: negs(deep, num(1)), Index: negs(deep, num(2)), ID: 1}
	p := api.Prog{Threads: []api.Thread{{}, {Body: []api.Stmt{nested(deep, s)}}}}
	if got, is := Thread(p, 1); got != 1 || !is {
		t.Error(got, is)
	}
	if _, is := Thread(p, 2); is {
		t.Error("a statement that is not there")
	}
	q := Copy(p)
	depth, in := 0, q.Threads[1].Body
	for ; in[0].Kind == api.StmtWhile; in = in[0].Body {
		depth++
	}
	if depth != deep || in[0].ID != 1 {
		t.Error(depth, in[0].ID)
	}
	minus := 0
	for e := in[0].Expr; e.Kind == api.ExprNeg; e = e.Args[0] {
		minus++
	}
	if minus != deep {
		t.Error(minus)
	}
	alone := Stmts(api.Prog{Threads: []api.Thread{{Body: []api.Stmt{s}}}})
	if len(alone) != 1 || alone[0].Index.Args[0].Kind != api.ExprNeg {
		t.Error(len(alone))
	}
	if l := Stmts(api.Prog{Threads: []api.Thread{{Body: []api.Stmt{nested(400, numbered(7))}}}}); len(l) != 401 || l[400].ID != 7 {
		t.Error(len(l))
	}
	wide := api.Prog{Threads: []api.Thread{{Body: make([]api.Stmt, 200000)}}}
	wide.Threads[0].Body[199999].ID = 5
	if l := Stmts(wide); len(l) != 200000 || l[199999].ID != 5 {
		t.Error(len(l))
	}
	if got, is := Thread(wide, 5); got != 0 || !is {
		t.Error(got, is)
	}
}
