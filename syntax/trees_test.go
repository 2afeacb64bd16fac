package syntax

import (
	"reflect"
	"strings"
	"testing"

	"warp/api"
)

// passed tells what Stmts goes over: of each statement its depth, and its name or kind's word.
func passed(d api.Decl) string {
	var l []string
	for depth, s := range Stmts(d) {
		l = append(l, strings.Repeat(".", depth)+s.Name)
	}
	return strings.Join(l, " ")
}

func setting(name string) api.Stmt { return api.Stmt{Kind: api.StmtSet, Name: name, Expr: num(1)} }

// tree is a declaration whose statements have names, those with blocks too.
func tree() api.Decl {
	inner := api.Stmt{Name: "d", Body: []api.Stmt{setting("e")}, Else: []api.Stmt{setting("f"), setting("g")}}
	outer := api.Stmt{Name: "b", Body: []api.Stmt{setting("c"), inner}, Else: []api.Stmt{setting("h"), {Name: "i", Else: []api.Stmt{setting("j")}}}}
	return api.Decl{Kind: api.DeclThread, Name: "t", Body: []api.Stmt{setting("a"), outer, setting("k")}}
}

// P2.3: each statement ahead of those of its Body, then its Else, with the depth of its block.
func TestStmts(t *testing.T) {
	const want = ".a .b ..c ..d ...e ...f ...g ..h ..i ...j .k"
	if got := passed(tree()); got != want {
		t.Errorf("got %q, want %q", got, want)
	}
	for _, d := range []api.Decl{{}, {Kind: api.DeclThread, Name: "t"}, {Kind: api.DeclThread, Body: []api.Stmt{}}, {Kind: api.DeclVar, Name: "x", Num: 1}} {
		if got := passed(d); got != "" {
			t.Errorf("%v: %q", d, got)
		}
	}
	other := tree()
	other.Kind = api.DeclVar
	if got := passed(other); got != want {
		t.Errorf("of a declaration that may not be: %q", got)
	}
	main := mustParse(t, everyKind)[6]
	var kinds []api.StmtKind
	var places []api.Pos
	for depth, s := range Stmts(main) {
		kinds, places = append(kinds, s.Kind), append(places, s.Pos)
		if s.Pos.Col != depth+1 {
			t.Errorf("%v stands in a block of depth %d", s.Pos, depth)
		}
	}
	if len(kinds) != 15 || kinds[3] != api.StmtIf || kinds[4] != api.StmtLock || kinds[7] != api.StmtSignal || kinds[10] != api.StmtSend || kinds[14] != api.StmtPrint {
		t.Error(kinds)
	}
	for i := 1; i < len(places); i++ {
		if places[i].Line <= places[i-1].Line {
			t.Error("not in the order of the text:", places)
		}
	}
}

// P2.3: it may be left at any time, gone over again, and gone over while it is gone over.
func TestStmtsLeft(t *testing.T) {
	all := Stmts(tree())
	for n := range 12 {
		count := 0
		for range all {
			if count == n {
				break
			}
			count++
		}
		if want := min(n, 11); count != want {
			t.Errorf("left behind %d, want %d", count, want)
		}
	}
	row := ""
	for _, a := range all {
		for _, b := range all {
			if b.Name == a.Name {
				row += b.Name
				break
			}
		}
	}
	if row != "abcdefghijk" {
		t.Error(row)
	}
	calls := 0
	all(func(int, api.Stmt) bool { calls++; return calls < 6 })
	if calls != 6 {
		t.Error("called again behind a false:", calls)
	}
}

// P2.3: what is told is whole, is as it was when asked for, and shares nothing.
func TestStmtsIsNew(t *testing.T) {
	main := mustParse(t, everyKind)[6]
	var want []api.Stmt
	for _, s := range Stmts(main) {
		want = append(want, s)
	}
	if !reflect.DeepEqual(want[3], main.Body[3]) || !reflect.DeepEqual(want[8], main.Body[3].Else[1]) {
		t.Error("a statement is not told whole")
	}
	all := Stmts(main)
	for range 2 {
		i := 0
		for _, s := range all {
			if !reflect.DeepEqual(s, want[i]) {
				t.Fatalf("%d: got %+v, want %+v", i, s, want[i])
			}
			i++
			spoilBlock([]api.Stmt{s})
		}
	}
	if !reflect.DeepEqual(main, mustParse(t, everyKind)[6]) {
		t.Error("what was handed in is changed")
	}
	spoil([]api.Decl{main})
	i := 0
	for _, s := range all {
		if !reflect.DeepEqual(s, want[i]) {
			t.Fatalf("%d: what was handed in is kept", i)
		}
		i++
	}
	room := make([]api.Stmt, 3)
	room[1] = setting("spare")
	d := api.Decl{Kind: api.DeclThread, Body: []api.Stmt{{Kind: api.StmtWhile, Body: room[:1], Else: room[1:1], Expr: api.Expr{Args: make([]api.Expr, 1, 9)}}}}
	for _, s := range Stmts(d) {
		spoilBlock([]api.Stmt{s})
		_ = append(s.Else, setting("spoilt"))
		break
	}
	if room[1].Name != "spare" || room[0].Name != "" {
		t.Error("the room behind what was handed in is changed")
	}
}

// P2.3: Same, and what it does not look at.
func TestSame(t *testing.T) {
	if !Same(nil, nil) || !Same(nil, []api.Decl{}) || Same(nil, thread()) || Same(thread(), nil) || Same([]api.Decl{{}}, nil) {
		t.Error("empty programs")
	}
	a := mustParse(t, everyKind)
	b := mustParse(t, strings.NewReplacer("\n", " ", "\t", "\n").Replace(everyKind))
	if !Same(a, b) || !Same(b, a) || !Same(a, a) {
		t.Error("places are looked at")
	}
	for i := range b {
		find(b[i].Body)
	}
	if !Same(a, b) || !Same(b, a) {
		t.Error("what is found later is looked at")
	}
	hollow := thread(api.Stmt{Kind: api.StmtJoin, Body: []api.Stmt{}, Else: []api.Stmt{}, Expr: api.Expr{Args: []api.Expr{}}, Index: api.Expr{Args: []api.Expr{}}})
	if !Same(hollow, thread(api.Stmt{Kind: api.StmtJoin})) || !Same([]api.Decl{{Body: []api.Stmt{}}}, []api.Decl{{}}) {
		t.Error("nil and empty mean the same")
	}
	if !Same([]api.Decl{{Kind: 99, Num: -1 << 60, Name: "\xff"}}, []api.Decl{{Kind: 99, Num: -1 << 60, Name: "\xff"}}) {
		t.Error("programs that may not be")
	}
}

// find fills in what is found later.
func find(l []api.Stmt) {
	for i := range l {
		s := &l[i]
		s.ID, s.Slot, s.Other, s.Local = i+7, i+8, i+9, true
		s.Expr.Slot, s.Expr.Local, s.Index.Slot, s.Index.Local = 5, true, 6, true
		for j := range s.Expr.Args {
			s.Expr.Args[j].Slot, s.Expr.Args[j].Local = 3, true
		}
		find(s.Body)
		find(s.Else)
	}
}

// P2.3: programs that differ in one thing, wherever it stands.
func TestNotSame(t *testing.T) {
	base := func() []api.Decl {
		l := mustParse(t, everyKind)
		l[6].Body[3].Index = bin(api.OpAdd, num(1), num(2))
		return l
	}
	stmts := map[string]func(*api.Stmt){
		"kind":       func(s *api.Stmt) { s.Kind++ },
		"name":       func(s *api.Stmt) { s.Name += "x" },
		"with":       func(s *api.Stmt) { s.With += "x" },
		"expr":       func(s *api.Stmt) { s.Expr.Kind++ },
		"expr num":   func(s *api.Stmt) { s.Expr.Num++ },
		"expr name":  func(s *api.Stmt) { s.Expr.Name += "x" },
		"expr op":    func(s *api.Stmt) { s.Expr.Op++ },
		"expr args":  func(s *api.Stmt) { s.Expr.Args = append(s.Expr.Args, num(1)) },
		"index":      func(s *api.Stmt) { s.Index.Kind++ },
		"index num":  func(s *api.Stmt) { s.Index.Num-- },
		"index args": func(s *api.Stmt) { s.Index.Args = append(s.Index.Args, api.Expr{}) },
		"body":       func(s *api.Stmt) { s.Body = append(s.Body, api.Stmt{}) },
		"else":       func(s *api.Stmt) { s.Else = append(s.Else, api.Stmt{}) },
		"part":       func(s *api.Stmt) { s.Index, s.Expr = s.Expr, s.Index },
		"branch":     func(s *api.Stmt) { s.Body, s.Else = s.Else, s.Body },
	}
	for what, change := range stmts {
		for _, at := range []func([]api.Decl) *api.Stmt{
			func(l []api.Decl) *api.Stmt { return &l[6].Body[0] },
			func(l []api.Decl) *api.Stmt { return &l[6].Body[3] },
			func(l []api.Decl) *api.Stmt { return &l[6].Body[7] },
			func(l []api.Decl) *api.Stmt { return &l[6].Body[3].Body[2] },
			func(l []api.Decl) *api.Stmt { return &l[6].Body[3].Else[2].Body[0] },
		} {
			l := base()
			s := at(l)
			if (what == "part" && s.Expr.Kind == api.ExprNone) || (what == "branch" && len(s.Body) == 0) {
				continue
			}
			change(s)
			wantDiffer(t, what, base(), l)
		}
	}
	decls := map[string]func([]api.Decl){
		"kind":   func(l []api.Decl) { l[3].Kind = api.DeclCond },
		"name":   func(l []api.Decl) { l[7].Name = "u" },
		"number": func(l []api.Decl) { l[0].Num = 3 },
		"room":   func(l []api.Decl) { l[5].Num++ },
		"order":  func(l []api.Decl) { l[0], l[1] = l[1], l[0] },
		"body":   func(l []api.Decl) { l[7].Body = []api.Stmt{{}} },
		"arg":    func(l []api.Decl) { l[6].Body[0].Expr.Args[0].Args[1].Num++ },
		"deep":   func(l []api.Decl) { l[6].Body[3].Index.Args[1].Num++ },
	}
	for what, change := range decls {
		l := base()
		change(l)
		wantDiffer(t, what, base(), l)
	}
	wantDiffer(t, "one more", base(), append(base(), api.Decl{}))
	wantDiffer(t, "one less", base(), base()[1:])
}

func wantDiffer(t *testing.T, what string, a, b []api.Decl) {
	t.Helper()
	if Same(a, b) || Same(b, a) {
		t.Errorf("%s: they are not the same", what)
	}
}

// P2.3: trees of any depth are compared and gone over.
func TestHugeTrees(t *testing.T) {
	const deep = 200000
	for _, n := range []int{steep - 2, steep - 1, steep, steep + 1, 2 * steep, deep} {
		a, b, c := negs(n, num(1)), negs(n, num(1)), negs(n, num(2))
		if !Same(thread(printing(a)), thread(printing(b))) || Same(thread(printing(a)), thread(printing(c))) || Same(thread(printing(a)), thread(printing(b.Args[0]))) {
			t.Error("expressions of depth", n)
		}
		x, y, z := nested(n, setting("x")), nested(n, setting("x")), nested(n, setting("y"))
		if !Same(thread(x), thread(y)) || Same(thread(x), thread(z)) || Same(thread(x), thread(y.Body[0])) {
			t.Error("blocks of depth", n)
		}
	}
	for depth, s := range Stmts(thread(nested(deep, printing(negs(deep, num(1)))))[0]) {
		if depth != 1 || s.Kind != api.StmtWhile {
			t.Error(depth, s.Kind)
		}
		break
	}
	count := 0
	for depth := range Stmts(thread(nested(500, setting("x")))[0]) {
		if count++; depth != count {
			t.Fatal(depth, count)
		}
	}
	if count != 501 {
		t.Error(count)
	}
}

// Handed in is not changed: by none of the calls.
func TestNothingIsChanged(t *testing.T) {
	l := mustParse(t, everyKind)
	want := mustParse(t, everyKind)
	Check(l)
	Print(l)
	Same(l, want)
	Expr(l[6].Body[0].Expr)
	for range Stmts(l[6]) {
	}
	if !reflect.DeepEqual(l, want) {
		t.Error("what was handed in is changed")
	}
}
