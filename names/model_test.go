package names

import (
	"math"
	"reflect"
	"slices"
	"strconv"
	"strings"
	"testing"

	"warp/api"
	"warp/syntax"
)

// The model reads the chapter in another way: which locals are there at each statement is told ahead of all else, nothing is put in and taken out, and each flaw is asked by itself.

// modelSite is a statement, and the locals that are there ahead of it, by their slots.
type modelSite struct {
	stmt   *api.Stmt
	locals []string
}

// modelSites tells all statements of a block, and of those in it.
func modelSites(l []api.Stmt, locals []string) []modelSite {
	var sites []modelSite
	for i := range l {
		s := &l[i]
		sites = append(sites, modelSite{s, locals})
		sites = append(sites, modelSites(s.Body, locals)...)
		sites = append(sites, modelSites(s.Else, locals)...)
		if s.Kind == api.StmtLet {
			locals = append(slices.Clip(locals), s.Name)
		}
	}
	return sites
}

// modelLetters are what a name is: v is a variable, l a local.
var modelLetters = map[api.DeclKind]string{api.DeclVar: "v", api.DeclArray: "a", api.DeclMutex: "m", api.DeclCond: "c", api.DeclChan: "q", api.DeclThread: "t"}

// modelWants tell what Name may be, and behind a blank what With may be.
var modelWants = map[api.StmtKind]string{
	api.StmtSet: "vl", api.StmtPut: "a", api.StmtLock: "m", api.StmtUnlock: "m", api.StmtWait: "c m", api.StmtSignal: "c", api.StmtAll: "c",
	api.StmtSend: "q", api.StmtRecv: "q vl", api.StmtSpawn: "t",
}

// modelWhat tells what a name is at a site, and its slot; no letter, if it is not there.
func modelWhat(l []api.Decl, site modelSite, name string) (string, int) {
	if slot := slices.Index(site.locals, name); slot >= 0 {
		return "l", slot
	}
	for i, d := range l {
		if d.Name == name {
			slot := 0
			for _, ahead := range l[:i] {
				if ahead.Kind == d.Kind {
					slot++
				}
			}
			return modelLetters[d.Kind], slot
		}
	}
	return "", 0
}

// modelUse is a name that a statement has, what it may be, and where the answer goes.
type modelUse struct {
	name, wants string
	slot        *int
	local       *bool
}

func modelExprUses(e *api.Expr) []modelUse {
	var uses []modelUse
	switch e.Kind {
	case api.ExprName:
		uses = append(uses, modelUse{e.Name, "vl", &e.Slot, &e.Local})
	case api.ExprCell:
		uses = append(uses, modelUse{e.Name, "a", &e.Slot, &e.Local})
	}
	for i := range e.Args {
		uses = append(uses, modelExprUses(&e.Args[i])...)
	}
	return uses
}

func modelUses(s *api.Stmt) []modelUse {
	uses := append(modelExprUses(&s.Index), modelExprUses(&s.Expr)...)
	if wants, is := modelWants[s.Kind]; is {
		first, second, both := strings.Cut(wants, " ")
		uses = append(uses, modelUse{s.Name, first, &s.Slot, &s.Local})
		if both {
			uses = append(uses, modelUse{s.With, second, &s.Other, &s.Local})
		}
	}
	return uses
}

// modelDeclFlaw tells what is wrong with the declaration at a place.
func modelDeclFlaw(l []api.Decl, i int) api.Errno {
	d, cells := l[i], int64(0)
	for _, x := range l[:i+1] {
		if x.Kind == api.DeclArray {
			cells += x.Num
		}
	}
	switch {
	case slices.ContainsFunc(l[:i], func(x api.Decl) bool { return x.Name == d.Name }):
		return api.ErrTwice
	case d.Kind == api.DeclArray && (d.Num == 0 || cells > 256), d.Kind == api.DeclChan && (d.Num == 0 || d.Num > 16), i >= 64:
		return api.ErrBound
	}
	return api.OK
}

// modelStmtFlaw tells what is wrong with the n-th statement.
func modelStmtFlaw(l []api.Decl, n int, site modelSite) api.Errno {
	if n >= 512 {
		return api.ErrBound
	}
	for _, u := range modelUses(site.stmt) {
		what, _ := modelWhat(l, site, u.name)
		if what == "" {
			return api.ErrUnknown
		}
		if !strings.Contains(u.wants, what) {
			return api.ErrKind
		}
	}
	if site.stmt.Kind == api.StmtLet {
		if what, _ := modelWhat(l, site, site.stmt.Name); what != "" {
			return api.ErrTwice
		}
		if len(site.locals) >= 32 {
			return api.ErrBound
		}
	}
	return api.OK
}

// modelFind tells what Find is to tell of declarations that layer 2 takes; it fills in what is found.
func modelFind(l []api.Decl) (api.Prog, api.Pos, api.Errno) {
	for i, d := range l {
		if fault := modelDeclFlaw(l, i); fault != api.OK {
			return api.Prog{}, d.Pos, fault
		}
	}
	if !slices.ContainsFunc(l, func(d api.Decl) bool { return d.Kind == api.DeclThread && d.Name == "main" }) {
		return api.Prog{}, api.Pos{}, api.ErrMain
	}
	n, most := 0, map[string]int{}
	for _, d := range l {
		for _, site := range modelSites(d.Body, nil) {
			if fault := modelStmtFlaw(l, n, site); fault != api.OK {
				return api.Prog{}, site.stmt.Pos, fault
			}
			modelFill(l, n, site)
			n++
			most[d.Name] = max(most[d.Name], len(site.locals))
			if site.stmt.Kind == api.StmtLet {
				most[d.Name] = max(most[d.Name], len(site.locals)+1)
			}
		}
	}
	p := modelProg(l, most)
	p.Stmts = n
	return p, api.Pos{}, api.OK
}

func modelFill(l []api.Decl, n int, site modelSite) {
	s := site.stmt
	s.ID = n
	for _, u := range modelUses(s) {
		what, slot := modelWhat(l, site, u.name)
		*u.slot = slot
		if u.wants == "vl" {
			*u.local = what == "l"
		}
	}
	if s.Kind == api.StmtLet {
		s.Slot, s.Local = len(site.locals), true
	}
}

func modelProg(l []api.Decl, most map[string]int) api.Prog {
	var p api.Prog
	for _, d := range l {
		switch d.Kind {
		case api.DeclVar:
			p.Vars, p.Names.Vars = append(p.Vars, d.Num), append(p.Names.Vars, d.Name)
		case api.DeclArray:
			p.Arrays, p.Names.Arrays = append(p.Arrays, int(d.Num)), append(p.Names.Arrays, d.Name)
		case api.DeclMutex:
			p.Mutexes, p.Names.Mutexes = p.Mutexes+1, append(p.Names.Mutexes, d.Name)
		case api.DeclCond:
			p.Conds, p.Names.Conds = p.Conds+1, append(p.Names.Conds, d.Name)
		case api.DeclChan:
			p.Chans, p.Names.Chans = append(p.Chans, int(d.Num)), append(p.Names.Chans, d.Name)
		case api.DeclThread:
			if d.Name == "main" {
				p.Main = len(p.Threads)
			}
			p.Threads = append(p.Threads, api.Thread{Name: d.Name, Locals: most[d.Name], Body: d.Body})
		}
	}
	return p
}

// chooser makes choices, the same ones each time.
type chooser struct{ state uint64 }

func (c *chooser) below(n int) int {
	c.state ^= c.state << 13
	c.state ^= c.state >> 7
	c.state ^= c.state << 17
	return int((c.state >> 11) % uint64(n))
}

func (c *chooser) rarely(n int) bool { return c.below(n) == 0 }

// maker makes declarations, most of which go.
type maker struct {
	chooser
	decls  []api.Decl
	line   int
	left   int // statements that may still be made
	flawed int // one name of so many is any
}

func (m *maker) place() api.Pos {
	m.line++
	return at(m.line, m.below(9))
}

// name tells one that is such, if there is one and luck will have it, else any.
func (m *maker) name(wants string, locals []string) string {
	if !m.rarely(m.flawed) {
		var such []string
		for _, d := range m.decls {
			if strings.Contains(wants, modelLetters[d.Kind]) {
				such = append(such, d.Name)
			}
		}
		if strings.Contains(wants, "l") {
			such = append(such, locals...)
		}
		if len(such) > 0 {
			return such[m.below(len(such))]
		}
	}
	return "n" + strconv.Itoa(m.below(12))
}

func (m *maker) expr(depth int, locals []string) api.Expr {
	e := api.Expr{Kind: api.ExprKind(1 + m.below(6))}
	if depth == 0 {
		e.Kind = api.ExprNum
	}
	args := 0
	switch e.Kind {
	case api.ExprNum:
		e.Num = []int64{0, 1, 7, math.MaxInt32}[m.below(4)]
	case api.ExprName:
		e.Name = m.name("vl", locals)
	case api.ExprCell:
		e.Name, args = m.name("a", locals), 1
	case api.ExprNeg, api.ExprNot:
		args = 1
	case api.ExprBin:
		e.Op, args = api.Op(1+m.below(11)), 2
	}
	for range args {
		e.Args = append(e.Args, m.expr(depth-1, locals))
	}
	return e
}

// stmt makes a statement; of a kind that names what is not declared a join is made, mostly.
func (m *maker) stmt(depth int, locals []string) api.Stmt {
	m.left--
	s := api.Stmt{Kind: api.StmtKind(1 + m.below(15)), Pos: m.place()}
	if depth == 0 && (s.Kind == api.StmtIf || s.Kind == api.StmtWhile) {
		s.Kind = api.StmtLet
	}
	if wants, is := modelWants[s.Kind]; is {
		first, second, both := strings.Cut(wants, " ")
		s.Name = m.name(first, locals)
		if both {
			s.With = m.name(second, locals)
		}
		if what, _ := modelWhat(m.decls, modelSite{nil, locals}, s.Name); what == "" && !m.rarely(20) {
			return api.Stmt{Kind: api.StmtJoin, Pos: s.Pos}
		}
	}
	switch s.Kind {
	case api.StmtLet:
		s.Name = "k" + strconv.Itoa(m.line)
		if m.rarely(m.flawed) {
			s.Name = m.name("vamcqtl", locals)
		}
		s.Expr = m.expr(3, locals)
	case api.StmtPut:
		s.Index, s.Expr = m.expr(2, locals), m.expr(3, locals)
	case api.StmtIf:
		s.Expr, s.Body, s.Else = m.expr(2, locals), m.block(depth-1, locals), m.block(depth-1, locals)
	case api.StmtWhile:
		s.Expr, s.Body = m.expr(2, locals), m.block(depth-1, locals)
	case api.StmtSet, api.StmtSend, api.StmtPrint:
		s.Expr = m.expr(3, locals)
	}
	return s
}

func (m *maker) block(depth int, locals []string) []api.Stmt {
	var l []api.Stmt
	for n := m.below(7); n > 0 && m.left > 0; n-- {
		s := m.stmt(depth, locals)
		if s.Kind == api.StmtLet {
			locals = append(slices.Clip(locals), s.Name)
		}
		l = append(l, s)
	}
	return l
}

// decl makes a declaration without its body.
func (m *maker) decl() api.Decl {
	d := api.Decl{Kind: api.DeclKind(1 + m.below(6)), Pos: m.place(), Name: "n" + strconv.Itoa(len(m.decls))}
	if m.rarely(6 * m.flawed) {
		d.Name = "n" + strconv.Itoa(m.below(12))
	}
	switch d.Kind {
	case api.DeclVar:
		d.Num = int64(m.below(7)) - 3
	case api.DeclArray:
		d.Num = 1 + int64(m.below(9))
		if m.rarely(m.flawed) {
			d.Num = int64(m.below(260))
		}
	case api.DeclChan:
		d.Num = 1 + int64(m.below(16))
		if m.rarely(m.flawed) {
			d.Num = int64(m.below(20))
		}
	}
	return d
}

// program makes declarations: few or many of them, with few statements or many.
func (m *maker) program() []api.Decl {
	m.decls, m.line, m.flawed = nil, 0, 2+m.below(400)
	n, most := m.below(14), 1+m.below(60)
	if m.rarely(8) {
		n = 58 + m.below(8)
	}
	if m.rarely(8) {
		most = 500 + m.below(30)
	}
	for range n {
		m.decls = append(m.decls, m.decl())
	}
	if !m.rarely(30) {
		at := m.below(len(m.decls) + 1)
		m.decls = slices.Insert(m.decls, at, api.Decl{Kind: api.DeclThread, Name: "main", Pos: m.place()})
	}
	m.left = most
	for i := range m.decls {
		if m.decls[i].Kind != api.DeclThread {
			continue
		}
		var l []api.Stmt
		for m.left > 0 && !m.rarely(most) {
			l = append(l, m.block(4, lettersOf(l))...)
		}
		m.decls[i].Body = l
	}
	return m.decls
}

// lettersOf tells the locals that are there behind statements.
func lettersOf(l []api.Stmt) []string {
	var locals []string
	for _, s := range l {
		if s.Kind == api.StmtLet {
			locals = append(locals, s.Name)
		}
	}
	return locals
}

// moved are the same declarations at other places.
func moved(l []api.Decl, place func(api.Pos) api.Pos) []api.Decl {
	l = slices.Clone(l)
	for i := range l {
		l[i].Pos, l[i].Body = place(l[i].Pos), movedBlock(l[i].Body, place)
	}
	return l
}

func movedBlock(l []api.Stmt, place func(api.Pos) api.Pos) []api.Stmt {
	l = slices.Clone(l)
	for i := range l {
		s := &l[i]
		s.Pos, s.Body, s.Else = place(s.Pos), movedBlock(s.Body, place), movedBlock(s.Else, place)
	}
	return l
}

// copied are the same declarations in other memory.
func copied(l []api.Decl) []api.Decl {
	l = slices.Clone(l)
	for i := range l {
		l[i].Body = fresh(l[i].Body)
	}
	return l
}

// checkFind holds Find of declarations that layer 2 takes against the model, and looks at P3.3.
func checkFind(t *testing.T, l []api.Decl) api.Errno {
	t.Helper()
	want, wantPlace, wantFault := modelFind(copied(l))
	got, place, fault := Find(l)
	if fault != wantFault || place != wantPlace || !reflect.DeepEqual(got, want) {
		text, _ := syntax.Print(l)
		t.Fatalf("%s\nerror %d at %v, want %d at %v;\ngot  %+v\nwant %+v", text, fault, place, wantFault, wantPlace, got, want)
	}
	checkPlaces(t, l)
	if fault == api.OK {
		checkFound(t, got)
	}
	return fault
}

// checkPlaces moves all declarations and statements: what is told is the same at other places.
func checkPlaces(t *testing.T, l []api.Decl) {
	t.Helper()
	p, place, fault := Find(l)
	move := func(x api.Pos) api.Pos { return at(-x.Col, 1000-x.Line) }
	q, elsewhere, again := Find(moved(l, move))
	for i := range p.Threads {
		p.Threads[i].Body = movedBlock(p.Threads[i].Body, move)
	}
	if fault != api.OK && fault != api.ErrMain {
		place = move(place)
	}
	if fault != again || elsewhere != place || !reflect.DeepEqual(p, q) {
		t.Fatalf("at other places: error %d at %v, want %d at %v", again, elsewhere, fault, place)
	}
}

// checkFound looks at P3.3: each slot is one that there is, each ID is there once.
func checkFound(t *testing.T, p api.Prog) {
	t.Helper()
	ids := map[int]int{}
	for _, s := range Stmts(p) {
		ids[s.ID]++
		thread, is := Thread(p, s.ID)
		if !is || s.ID < 0 || s.ID >= p.Stmts {
			t.Fatalf("the statement %d is in %d, %v", s.ID, thread, is)
		}
		if s.Kind == api.StmtLet && (!s.Local || s.Slot >= p.Threads[thread].Locals) {
			t.Fatalf("the local of %+v is not there", s)
		}
		most := map[string]int{"a": len(p.Arrays), "m": p.Mutexes, "c": p.Conds, "q": len(p.Chans), "t": len(p.Threads)}
		for _, u := range modelUses(&s) {
			bound := most[u.wants]
			if u.wants == "vl" {
				bound = len(p.Vars)
				if *u.local {
					bound = p.Threads[thread].Locals
				}
			}
			if *u.slot < 0 || *u.slot >= bound {
				t.Fatalf("%s of %+v has the slot %d", u.name, s, *u.slot)
			}
		}
	}
	if len(ids) != p.Stmts {
		t.Fatalf("%d IDs of %d statements", len(ids), p.Stmts)
	}
}

// P3.1, P3.3: many programs, most with one flaw or none, against the model.
func TestAgainstModel(t *testing.T) {
	m := maker{chooser: chooser{88172645463325252}}
	seen := map[api.Errno]int{}
	for range 6000 {
		l := m.program()
		if syntax.Check(l) != api.OK {
			t.Fatalf("layer 2 refuses %+v", l)
		}
		seen[checkFind(t, l)]++
	}
	for _, fault := range []api.Errno{api.OK, api.ErrTwice, api.ErrUnknown, api.ErrKind, api.ErrMain, api.ErrBound} {
		if seen[fault] < 100 {
			t.Errorf("only %d programs of error %d: %v", seen[fault], fault, seen)
		}
	}
	checkFind(t, mustParse(t, everyKind))
}

// P3.1, P3.3: a program of each kind of thing with one word another.
func TestOneWordAnother(t *testing.T) {
	words := strings.Fields(strings.NewReplacer(";", " ;", "[", " [ ", "]", " ]", "(", "( ", ")", " )", "-", "- ", "!x", "! x").Replace(everyKind))
	instead := []string{"x", "a", "m", "c", "q", "r", "z", "u", "main", "last", "nope", "0", "17"}
	tried := 0
	for i := range words {
		for _, s := range instead {
			l, _, fault := syntax.Parse(strings.Join(slices.Replace(slices.Clone(words), i, i+1, s), "\n"))
			if fault == api.OK {
				checkFind(t, l)
				tried++
			}
		}
	}
	if tried < 500 {
		t.Error("only", tried, "programs")
	}
}

func FuzzText(f *testing.F) {
	for _, s := range []string{"", everyKind, declared + "}", "thread main { let k = k; }", "array a 200; array b 57; thread main { a[0] = 1; }"} {
		f.Add(s)
	}
	f.Fuzz(func(t *testing.T, text string) {
		l, place, fault := syntax.Parse(text)
		p, got, found := Text(text)
		if fault != api.OK {
			if found != fault || got != place || !reflect.DeepEqual(p, api.Prog{}) {
				t.Fatalf("%q: error %d at %v, want layer 2's", text, found, got)
			}
			return
		}
		q, at, again := Find(l)
		if found != again || got != at || !reflect.DeepEqual(p, q) {
			t.Fatalf("%q: Text: %d at %v, Find: %d at %v", text, found, got, again, at)
		}
		checkFind(t, l)
	})
}
