package names

import (
	"math"
	"reflect"
	"strconv"
	"strings"
	"testing"

	"warp/api"
	"warp/syntax"
)

// things are a name of each kind, by what it is; the place behind a local's let is a thread's.
var things = map[string]string{"none": "nope", "var": "x", "array": "a", "mutex": "m", "cond": "c", "chan": "q", "thread": "t", "local": "k"}

const allThings = "var x = 1; array a 1; mutex m; cond c; chan q 1; thread t { } thread main { let k = 1;\n"

// P3.1: of each name that a statement has, each kind that it may not be.
func TestKinds(t *testing.T) {
	for text, wants := range map[string]string{
		"NAME = 1;":                      "var local",
		"NAME[0] = 1;":                   "array",
		"lock NAME;":                     "mutex",
		"unlock NAME;":                   "mutex",
		"wait NAME m;":                   "cond",
		"wait c NAME;":                   "mutex",
		"signal NAME;":                   "cond",
		"all NAME;":                      "cond",
		"send NAME 1;":                   "chan",
		"recv NAME x;":                   "chan",
		"recv q NAME;":                   "var local",
		"spawn NAME;":                    "thread",
		"print NAME;":                    "var local",
		"print NAME[0];":                 "array",
		"print -!NAME;":                  "var local",
		"print 1 + NAME;":                "var local",
		"print NAME * 2;":                "var local",
		"print a[NAME];":                 "var local",
		"print a[NAME[0]];":              "array",
		"a[NAME] = 1;":                   "var local",
		"a[0] = NAME;":                   "var local",
		"a[NAME[0]] = 1;":                "array",
		"x = NAME;":                      "var local",
		"let n = NAME;":                  "var local",
		"send q NAME;":                   "var local",
		"if NAME { }":                    "var local",
		"while NAME { }":                 "var local",
		"if 1 {\nprint NAME; }":          "var local",
		"if 1 { } else {\nprint NAME; }": "var local",
		"while 1 {\nlock NAME; }":        "mutex",
	} {
		for kind, name := range things {
			s := allThings + strings.ReplaceAll(text, "NAME", name) + "}"
			line := strings.Count(s, "\n") + 1
			switch {
			case strings.Contains(" "+wants+" ", " "+kind+" "):
				mustFind(t, s)
			case kind == "none":
				wantFlaw(t, s, api.ErrUnknown, line, 1)
			default:
				wantFlaw(t, s, api.ErrKind, line, 1)
			}
		}
	}
}

// P3.1: a let's name is of no declaration, wherever that stands, and of no local that is there.
func TestLetTwice(t *testing.T) {
	for kind, name := range things {
		s := allThings + "let " + name + " = 1; }"
		if kind == "none" {
			mustFind(t, s)
		} else {
			wantFlaw(t, s, api.ErrTwice, 2, 1)
		}
	}
	wantFlaw(t, "thread main {\nlet main = 1; }", api.ErrTwice, 2, 1)
	wantFlaw(t, "thread main {\nlet t = 1; } thread t { }", api.ErrTwice, 2, 1)
	wantFlaw(t, "thread main {\nlet x = 1; } var x = 2;", api.ErrTwice, 2, 1)
	wantFlaw(t, "thread main { let k = 1; if 1 {\nlet k = 1; } }", api.ErrTwice, 2, 1)
	wantFlaw(t, "thread main { let k = 1; if 1 { } else { while 1 {\nlet k = 1; } } }", api.ErrTwice, 2, 1)
	mustFind(t, "thread main { if 1 { let k = 1; } else { let k = 1; } let k = 1; } thread t { let k = 1; }")
}

// P3.1: a name that was declared ahead, of whichever kinds the two are.
func TestDeclaredTwice(t *testing.T) {
	all := []string{"var n = 1;", "array n 1;", "mutex n;", "cond n;", "chan n 1;", "thread n { }"}
	for _, first := range all {
		for _, second := range all {
			wantFlaw(t, "thread main { } "+first+"\n mutex other; "+second, api.ErrTwice, 2, 15)
		}
	}
	wantFlaw(t, "thread main { }\nthread main { }", api.ErrTwice, 2, 1)
	wantFlaw(t, "thread main { }\nvar main = 1;", api.ErrTwice, 2, 1)
	wantFlaw(t, "var x = 1; thread main { } mutex m;\nvar x = 2; mutex m;", api.ErrTwice, 2, 1)
}

// P3.1: numbers of declarations at their bounds, and one past them.
func TestNumbers(t *testing.T) {
	const main = "thread main { }\n"
	bound := func(decl string) { t.Helper(); wantFlaw(t, main+decl, api.ErrBound, 2, 1) }
	for _, s := range []string{"array a 1;", "array a 256;", "chan q 1;", "chan q 16;", "var x = 2147483647;", "var x = -2147483647;", "var x = 0;"} {
		mustFind(t, main+s)
	}
	for _, s := range []string{"array a 0;", "array a 257;", "array a 2147483647;", "chan q 0;", "chan q 17;", "chan q 2147483647;"} {
		bound(s)
	}
	if p := mustFind(t, main+"chan p 16; chan q 16; array a 256; chan r 1;"); !reflect.DeepEqual(p.Chans, []int{16, 16, 1}) || !reflect.DeepEqual(p.Arrays, []int{256}) {
		t.Errorf("%+v", p)
	}
	mustFind(t, main+"array a 100; array b 100; array d 56;")
	wantFlaw(t, main+"array a 100; array b 100;\narray d 57; array e 1;", api.ErrBound, 3, 1)
	wantFlaw(t, main+"array a 256;\narray b 1;", api.ErrBound, 3, 1)
	wantFlaw(t, main+"array a 255; array b 1; var x = 1;\narray d 1;", api.ErrBound, 3, 1)
	wantFlaw(t, main+"array a 255;\narray b 2147483647;", api.ErrBound, 3, 1)
	var many strings.Builder
	for i := range api.MaxNames - 1 {
		many.WriteString("array a" + strconv.Itoa(i) + " 4; ")
	}
	if p := mustFind(t, main+many.String()); len(p.Arrays) != 63 {
		t.Error(len(p.Arrays))
	}
}

// decls are so many declarations of all kinds, thread main last but one, each on a line of its own.
func decls(n int) string {
	l := make([]string, n)
	for i := range l {
		name := "n" + strconv.Itoa(i)
		l[i] = []string{"var " + name + " = 1;", "array " + name + " 1;", "mutex " + name + ";", "cond " + name + ";", "chan " + name + " 1;", "thread " + name + " { }"}[i%6]
	}
	l[n-2] = "thread main { }"
	return strings.Join(l, "\n")
}

// P3.1: as many declarations as may be, and one more: the first too many is told, behind what is wrong ahead of it.
func TestMaxNames(t *testing.T) {
	p := mustFind(t, decls(api.MaxNames))
	if count := len(p.Vars) + len(p.Arrays) + p.Mutexes + p.Conds + len(p.Chans) + len(p.Threads); count != 64 {
		t.Error(count, "declarations")
	}
	wantFlaw(t, decls(api.MaxNames+1), api.ErrBound, 65, 1)
	wantFlaw(t, decls(api.MaxNames+2), api.ErrBound, 65, 1)
	wantFlaw(t, decls(api.MaxNames+200), api.ErrBound, 65, 1)
	wantFlaw(t, decls(api.MaxNames)+"\nvar n0 = 1;", api.ErrTwice, 65, 1)
	wantFlaw(t, decls(api.MaxNames)+"\nvar m = 1;\nvar n0 = 1;", api.ErrBound, 65, 1)
	wantFlaw(t, decls(api.MaxNames)+"\narray m 0;", api.ErrBound, 65, 1)
	wantFlaw(t, strings.Replace(decls(api.MaxNames+1), "mutex n62", "mutex n61", 1), api.ErrTwice, 63, 1)
	wantFlaw(t, strings.Replace(decls(api.MaxNames+1), "var n60 = 1", "array n60 0", 1), api.ErrBound, 61, 1)
	huge := make([]api.Decl, 300000)
	for i := range huge {
		huge[i] = api.Decl{Kind: api.DeclMutex, Name: "m" + strconv.Itoa(i), Pos: at(i, 7)}
	}
	wantRefused(t, huge, api.ErrBound, at(64, 7))
}

// P3.1: no thread main, told at 0, 0, behind what is wrong with declarations and ahead of what is wrong in bodies.
func TestMain(t *testing.T) {
	for _, s := range []string{"", "var x = 1;", "thread t { }", "var main = 1;", "array main 1;", "mutex main;", "cond main;", "chan main 1;", "thread mai { } thread mainx { }", "thread t { x = 1; let t = 1; }", "thread t { let main = 1; }"} {
		wantFlaw(t, s, api.ErrMain, 0, 0)
	}
	wantRefused(t, nil, api.ErrMain, api.Pos{})
	wantRefused(t, []api.Decl{}, api.ErrMain, api.Pos{})
	wantFlaw(t, "thread t { x = 1; }\narray a 0;", api.ErrBound, 2, 1)
	wantFlaw(t, "thread t { x = 1; }\nthread t { }", api.ErrTwice, 2, 1)
	wantFlaw(t, "thread main { x = 1; }\nthread main { }", api.ErrTwice, 2, 1)
	wantFlaw(t, "thread main {\nx = 1; } thread t { y = 1; }", api.ErrUnknown, 2, 1)
	wantFlaw(t, "thread t {\nlock main; } thread main { x = 1; }", api.ErrKind, 2, 1)
}

// P3.1: of two flaws of one declaration, of two, the first is told.
func TestFirstOfDeclarations(t *testing.T) {
	wantFlaw(t, "var x = 1;\narray x 0;", api.ErrTwice, 2, 1)
	wantFlaw(t, "var x = 1;\nchan x 17;", api.ErrTwice, 2, 1)
	wantFlaw(t, "var x = 1;\narray a 0;\nvar x = 1;", api.ErrBound, 2, 1)
	wantFlaw(t, "var x = 1;\nvar x = 1;\nchan q 17;", api.ErrTwice, 2, 1)
	wantFlaw(t, "array a 0;\narray b 0;", api.ErrBound, 1, 1)
	wantFlaw(t, "array a 0;\narray a 1;", api.ErrBound, 1, 1)
	wantFlaw(t, "array a 257;\narray b 256;", api.ErrBound, 1, 1)
}

// rights, wrongs are a name that goes, one of another kind, of the parts of the rows below.
var (
	rights = map[rune]string{'E': "x", 'F': "x", 'G': "k", 'I': "k", 'V': "x", 'S': "k", 'T': "x", 'A': "a", 'B': "a", 'P': "a", 'Q': "q", 'C': "c", 'M': "m"}
	wrongs = map[rune]string{'E': "m", 'F': "a", 'G': "t", 'I': "q", 'V': "a", 'S': "m", 'T': "c", 'A': "x", 'B': "k", 'P': "m", 'Q': "x", 'C': "m", 'M': "c"}
)

// filled puts names for the parts of a row.
func filled(row string, names map[rune]string) string {
	var b strings.Builder
	for _, r := range row {
		if name, is := names[r]; is {
			b.WriteString(name)
		} else {
			b.WriteRune(r)
		}
	}
	return b.String()
}

// P3.1: of two flaws in bodies the first is told, in the order in which a statement's parts are looked at.
func TestFirstOfStatements(t *testing.T) {
	for row, order := range map[string]string{
		"P[I] = E;":                         "IEP",
		"P[A[I]] = B[E] + F;":               "AIBEFP",
		"S = E;":                            "ES",
		"T = E < F;":                        "EFT",
		"send Q E;":                         "EQ",
		"wait C M;":                         "CM",
		"recv Q V;":                         "QV",
		"let n = E * F;":                    "EF",
		"print E + F * G;":                  "EFG",
		"print (E + F) * G;":                "EFG",
		"print A[E];":                       "AE",
		"print -A[!B[E]] == F || G;":        "ABEFG",
		"if E {\nS = F; } else {\nT = G; }": "EFSGT",
		"while E { while F {\nsignal C; }\nlock M; } print G;":     "EFCMG",
		"if E { if F { } else {\nlock M; } } else { } P[0] = G;":   "EFMGP",
		"print E; send Q F; } thread late { let k = 1; wait C M; ": "EFQCM",
	} {
		mustFind(t, allThings+filled(row, rights)+"}")
		for i, p := range order {
			names := map[rune]string{}
			for r, name := range rights {
				names[r] = name
			}
			names[p] = wrongs[p]
			wantFirst(t, row, filled(row, names), api.ErrKind)
			for _, q := range order[i+1:] {
				names[p], names[q] = wrongs[p], "nope"
				wantFirst(t, row, filled(row, names), api.ErrKind)
				names[p], names[q] = "nope", wrongs[q]
				wantFirst(t, row, filled(row, names), api.ErrUnknown)
				names[q] = rights[q]
			}
		}
	}
}

func wantFirst(t *testing.T, row, text string, want api.Errno) {
	t.Helper()
	if p, place, fault := Text(allThings + text + "}"); fault != want || place.Line < 2 || len(p.Threads) != 0 {
		t.Errorf("%q as %q: error %d at %v, want %d", row, text, fault, place, want)
	}
}

// P3.1: of two flaws in two statements the place is the first one's, in the order of their numbers.
func TestFirstPlace(t *testing.T) {
	body := "if 1 {\nHOLE1 if 1 {\nHOLE2 } else {\nHOLE3 } \nHOLE4 } else {\nHOLE5 while 1 {\nHOLE6 }\n}\nHOLE7 }\nthread late {\nHOLE8 "
	lines := []int{3, 4, 5, 6, 7, 8, 10, 12}
	flaws := map[string]api.Errno{"x = nope;": api.ErrUnknown, "lock x;": api.ErrKind, "let main = 1;": api.ErrTwice}
	for first := range 8 {
		for second := range 8 {
			for a, want := range flaws {
				for b := range flaws {
					if second <= first {
						continue
					}
					text := body
					for i := range 8 {
						put := "join;"
						if i == first {
							put = a
						} else if i == second {
							put = b
						}
						text = strings.Replace(text, "HOLE"+strconv.Itoa(i+1), put, 1)
					}
					wantFlaw(t, allThings+text+"}", want, lines[first], 1)
				}
			}
		}
	}
}

// joins are so many statements, each on a line of its own.
func joins(n int) string { return strings.Repeat("join;\n", n) }

// P3.1: as many statements as may be, over all threads and blocks, and one more.
func TestMaxStmts(t *testing.T) {
	if p := mustFind(t, "thread main {\n"+joins(512)+"}"); p.Stmts != 512 || p.Threads[0].Body[511].ID != 511 {
		t.Error(p.Stmts)
	}
	wantFlaw(t, "thread main {\n"+joins(513)+"}", api.ErrBound, 514, 1)
	wantFlaw(t, "thread main {\n"+joins(9000)+"}", api.ErrBound, 514, 1)
	mustFind(t, "thread main {\n"+joins(300)+"} thread t {\n"+joins(212)+"}")
	wantFlaw(t, "thread main {\n"+joins(300)+"} thread t {\n"+joins(213)+"}", api.ErrBound, 515, 1)
	wantFlaw(t, "thread t {\n"+joins(512)+"} thread main { } thread u {\n"+joins(1)+"}", api.ErrBound, 515, 1)
	half := "if 1 {\n" + joins(100) + "} else {\n" + joins(100) + "while 1 {\n" + joins(310) + "}\n"
	mustFind(t, "thread main {\n"+half+"} }")
	wantFlaw(t, "thread main {\n"+half+"} join; }", api.ErrBound, 516, 3)
	wantFlaw(t, "thread main {\n"+half+"join; } join; }", api.ErrBound, 516, 1)
	wantFlaw(t, "thread main {\n"+joins(511)+"if 1 {\njoin; } }", api.ErrBound, 514, 1)
	wantFlaw(t, "thread main {\n"+joins(512)+"x = 1; }", api.ErrBound, 514, 1)
	wantFlaw(t, "thread main {\n"+joins(511)+"x = 1; }", api.ErrUnknown, 513, 1)
	wantFlaw(t, "thread main {\n"+joins(511)+"x = 1; join; }", api.ErrUnknown, 513, 1)
}

// lets are so many locals, each on a line of its own.
func lets(n int) string {
	var b strings.Builder
	for i := range n {
		b.WriteString("let n" + strconv.Itoa(i) + " = 1;\n")
	}
	return b.String()
}

// P3.1: as many locals as may be there at once, and one more.
func TestMaxLocals(t *testing.T) {
	p := mustFind(t, "thread main {\n"+lets(32)+"} thread t {\n"+lets(32)+"}")
	for _, x := range p.Threads {
		if x.Locals != 32 || x.Body[31].Slot != 31 {
			t.Errorf("%+v", x)
		}
	}
	wantFlaw(t, "thread main {\n"+lets(33)+"}", api.ErrBound, 34, 1)
	wantFlaw(t, "thread main {\n"+lets(32)+"if 1 {\nlet more = 1; } }", api.ErrBound, 35, 1)
	wantFlaw(t, "thread main { while 1 { let more = 1;\n"+lets(32)+"} }", api.ErrBound, 33, 1)
	if p := mustFind(t, "thread main { if 1 {\n"+lets(32)+"} else {\n"+lets(32)+"} "+lets(32)+"}"); p.Threads[0].Locals != 32 {
		t.Error(p.Threads[0].Locals)
	}
	if p := mustFind(t, "thread main {\n"+lets(20)+strings.Repeat("while 1 { let a = 1; let b = a; }", 40)+"}"); p.Threads[0].Locals != 22 {
		t.Error(p.Threads[0].Locals)
	}
	wantFlaw(t, "thread main {\n"+lets(32)+"let n7 = 1; }", api.ErrTwice, 34, 1)
	wantFlaw(t, "thread main {\n"+lets(32)+"let main = 1; }", api.ErrTwice, 34, 1)
	wantFlaw(t, "thread main {\n"+lets(32)+"let more = nope; }", api.ErrUnknown, 34, 1)
	wantFlaw(t, "thread main {\n"+lets(32)+"let more = main; }", api.ErrKind, 34, 1)
	wantFlaw(t, "thread main {\n"+lets(3)+"let n1 = nope; }", api.ErrUnknown, 5, 1)
}

// P3.1: as deep as may be.
func TestDepth(t *testing.T) {
	s := api.Stmt{Kind: api.StmtPrint, Expr: negs(api.MaxDepth-1, num(1))}
	deepest := nested(api.MaxDepth-1, s)
	p, place, fault := Find([]api.Decl{{Kind: api.DeclThread, Name: "main", Body: []api.Stmt{deepest}}})
	if fault != api.OK || place != (api.Pos{}) || p.Stmts != api.MaxDepth {
		t.Error(place, fault, p.Stmts)
	}
	wantRefused(t, []api.Decl{{Kind: api.DeclThread, Name: "main", Body: []api.Stmt{nested(1, deepest)}}}, api.ErrArg, api.Pos{})
	wantRefused(t, []api.Decl{{Kind: api.DeclThread, Name: "main", Body: []api.Stmt{nested(200000, s)}}}, api.ErrArg, api.Pos{})
}

// P3.1: declarations that layer 2 refuses, ahead of any flaw.
func TestRefusedByLayer2(t *testing.T) {
	main := api.Decl{Kind: api.DeclThread, Name: "main", Pos: at(1, 1)}
	with := func(s api.Stmt) api.Decl { return api.Decl{Kind: api.DeclThread, Name: "t", Body: []api.Stmt{s}} }
	for _, d := range []api.Decl{
		{}, {Kind: -1, Name: "x"}, {Kind: 7, Name: "x"}, {Kind: math.MaxInt, Name: "x"},
		{Kind: api.DeclVar}, {Kind: api.DeclVar, Name: "print"}, {Kind: api.DeclVar, Name: "X"}, {Kind: api.DeclVar, Name: "\xff"}, {Kind: api.DeclVar, Name: "a2345678901234567"},
		{Kind: api.DeclVar, Name: "x", Num: -1 << 31}, {Kind: api.DeclVar, Name: "x", Num: 1 << 31}, {Kind: api.DeclVar, Name: "x", Num: math.MinInt64}, {Kind: api.DeclVar, Name: "x", Num: math.MaxInt64},
		{Kind: api.DeclArray, Name: "a", Num: -1}, {Kind: api.DeclArray, Name: "a", Num: math.MinInt64}, {Kind: api.DeclChan, Name: "q", Num: -1}, {Kind: api.DeclChan, Name: "q", Num: 1 << 40},
		{Kind: api.DeclMutex, Name: "m", Num: 1}, {Kind: api.DeclVar, Name: "x", Body: []api.Stmt{{Kind: api.StmtJoin}}},
		with(api.Stmt{}), with(api.Stmt{Kind: 16}), with(api.Stmt{Kind: -7}), with(api.Stmt{Kind: api.StmtLock}), with(api.Stmt{Kind: api.StmtPrint}),
		with(api.Stmt{Kind: api.StmtJoin, Name: "x"}), with(api.Stmt{Kind: api.StmtPrint, Expr: num(1 << 31)}), with(api.Stmt{Kind: api.StmtPrint, Expr: num(-1)}),
		with(api.Stmt{Kind: api.StmtPrint, Expr: neg(api.Expr{})}), with(api.Stmt{Kind: api.StmtPrint, Expr: api.Expr{Kind: api.ExprName}}),
		with(api.Stmt{Kind: api.StmtPrint, Expr: api.Expr{Kind: api.ExprBin, Op: 12, Args: []api.Expr{num(1), num(1)}}}),
		with(api.Stmt{Kind: api.StmtPrint, Expr: api.Expr{Kind: api.ExprCell, Name: "a"}}), with(api.Stmt{Kind: api.StmtPrint, Expr: negs(24, num(1))}),
		with(nested(2, api.Stmt{Kind: api.StmtWait, Name: "c"})), with(api.Stmt{Kind: api.StmtIf, Expr: num(1), Else: []api.Stmt{{}}}),
	} {
		if syntax.Check([]api.Decl{d}) != api.ErrArg {
			t.Errorf("layer 2 takes %+v", d)
		}
		for _, l := range [][]api.Decl{{d}, {main, d}, {d, main}, {main, main, d}, {{Kind: api.DeclArray, Name: "a"}, d}, {with(api.Stmt{Kind: api.StmtLock, Name: "nope"}), d}} {
			wantRefused(t, l, api.ErrArg, api.Pos{})
		}
	}
}

// P3.1: of a text that layer 2 refuses its error, and its place.
func TestTextOfNoProgram(t *testing.T) {
	for _, s := range []string{
		"var x 3;", "thread main { print a < b < c; }", "thread main {", "x", "thread main { nope = 1 }", "var x = 1; var x = 1; var", "mutex",
		"thread main { x = & 1; }", "var a2345678901234567 = 1;", "thread main {\n x = 07; }", "\xff", "var x = 2147483648;", "\x00",
		"thread main { " + strings.Repeat("while 1 {", 24) + "\njoin; " + strings.Repeat("}", 25),
		"thread main { x = 1;\n print " + strings.Repeat("-", 24) + "1; }",
		"thread main { x = 1; }" + strings.Repeat(" ", api.MaxText), strings.Repeat("(", api.MaxText), strings.Repeat("var x = 1;\n", 9000),
	} {
		_, place, fault := syntax.Parse(s)
		p, gotPlace, gotFault := Text(s)
		if fault == api.OK || gotFault != fault || gotPlace != place {
			t.Errorf("%.80q: error %d at %v, want %d at %v", s, gotFault, gotPlace, fault, place)
		}
		wantNothing(t, s, p)
	}
	full := "thread main { join; }" + strings.Repeat(" ", api.MaxText)
	mustFind(t, full[:api.MaxText])
	if _, place, fault := Text(full[:api.MaxText+1]); fault != api.ErrLong || place != (api.Pos{}) {
		t.Error(place, fault)
	}
}

// P3.1: the place that is told is the one that was handed in, whatever it is.
func TestPlaceAsHandedIn(t *testing.T) {
	odd := at(-3, math.MaxInt)
	join := api.Stmt{Kind: api.StmtJoin, Pos: at(1, 1)}
	bad := api.Stmt{Kind: api.StmtLock, Name: "nope", Pos: odd}
	main := func(s ...api.Stmt) api.Decl {
		return api.Decl{Kind: api.DeclThread, Name: "main", Pos: at(9, 9), Body: s}
	}
	wantRefused(t, []api.Decl{main(join, bad, join)}, api.ErrUnknown, odd)
	wantRefused(t, []api.Decl{main(join, nested(3, bad), join)}, api.ErrUnknown, odd)
	wantRefused(t, []api.Decl{main(join), {Kind: api.DeclMutex, Name: "main", Pos: odd}}, api.ErrTwice, odd)
	wantRefused(t, []api.Decl{{Kind: api.DeclChan, Name: "q", Pos: odd}, main(join)}, api.ErrBound, odd)
	wantRefused(t, []api.Decl{{Kind: api.DeclMutex, Name: "main", Pos: odd}}, api.ErrMain, api.Pos{})
}
