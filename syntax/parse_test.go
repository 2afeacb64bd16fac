package syntax

import (
	"reflect"
	"strconv"
	"strings"
	"testing"

	"warp/api"
	"warp/lex"
)

func at(line, col int) api.Pos { return api.Pos{Line: line, Col: col} }

// P2.1: the chapter's examples that are refused, and its place of the first.
func TestChapterErrors(t *testing.T) {
	wantRefused(t, "var x 3;", api.ErrSyntax, 1, 7)
	wantRefused(t, "thread t { print a < b < c;", api.ErrSyntax, 1, 24)
}

// P2.1: each declaration, with what its kind names, and its place.
func TestDeclarations(t *testing.T) {
	for _, text := range []string{"", " ", "\n#x\n\n", "\t\r"} {
		wantProgram(t, text)
	}
	wantProgram(t, "var x = 3;", api.Decl{Kind: api.DeclVar, Pos: at(1, 1), Name: "x", Num: 3})
	wantProgram(t, "\n var x=-3;", api.Decl{Kind: api.DeclVar, Pos: at(2, 2), Name: "x", Num: -3})
	wantProgram(t, "var x = -0;", api.Decl{Kind: api.DeclVar, Pos: at(1, 1), Name: "x"})
	wantProgram(t, "var x = - #\n2147483647;", api.Decl{Kind: api.DeclVar, Pos: at(1, 1), Name: "x", Num: -2147483647})
	wantProgram(t, "array a 4;array b 2147483647;",
		api.Decl{Kind: api.DeclArray, Pos: at(1, 1), Name: "a", Num: 4},
		api.Decl{Kind: api.DeclArray, Pos: at(1, 11), Name: "b", Num: 2147483647})
	wantProgram(t, "mutex m;\ncond c;", api.Decl{Kind: api.DeclMutex, Pos: at(1, 1), Name: "m"}, api.Decl{Kind: api.DeclCond, Pos: at(2, 1), Name: "c"})
	wantProgram(t, "chan q 0;", api.Decl{Kind: api.DeclChan, Pos: at(1, 1), Name: "q"})
	wantProgram(t, "thread main{}", api.Decl{Kind: api.DeclThread, Pos: at(1, 1), Name: "main"})
	wantProgram(t, "mutex m; mutex m;", api.Decl{Kind: api.DeclMutex, Pos: at(1, 1), Name: "m"}, api.Decl{Kind: api.DeclMutex, Pos: at(1, 10), Name: "m"})
}

// P2.1: each statement, with what its kind names, and its place.
func TestStatements(t *testing.T) {
	e := bin(api.OpAdd, named("x"), num(1))
	for text, want := range map[string]api.Stmt{
		"let y = x + 1;":               {Kind: api.StmtLet, Name: "y", Expr: e},
		"y=x+1;":                       {Kind: api.StmtSet, Name: "y", Expr: e},
		"a[x+1] = 7;":                  {Kind: api.StmtPut, Name: "a", Index: e, Expr: num(7)},
		"if x+1 { }":                   {Kind: api.StmtIf, Expr: e},
		"if x+1 { } else { }":          {Kind: api.StmtIf, Expr: e},
		"while x+1 { }":                {Kind: api.StmtWhile, Expr: e},
		"lock m;":                      {Kind: api.StmtLock, Name: "m"},
		"unlock m;":                    {Kind: api.StmtUnlock, Name: "m"},
		"wait c m;":                    {Kind: api.StmtWait, Name: "c", With: "m"},
		"signal c;":                    {Kind: api.StmtSignal, Name: "c"},
		"all c;":                       {Kind: api.StmtAll, Name: "c"},
		"send q x+1;":                  {Kind: api.StmtSend, Name: "q", Expr: e},
		"recv q x;":                    {Kind: api.StmtRecv, Name: "q", With: "x"},
		"spawn t;":                     {Kind: api.StmtSpawn, Name: "t"},
		"join;":                        {Kind: api.StmtJoin},
		"print x+1;":                   {Kind: api.StmtPrint, Expr: e},
		"send q (x+1);":                {Kind: api.StmtSend, Name: "q", Expr: e},
		"send q - 1;":                  {Kind: api.StmtSend, Name: "q", Expr: neg(num(1))},
		"recv q q;":                    {Kind: api.StmtRecv, Name: "q", With: "q"},
		"a [ x + 1 ] = \n a [ 2 ] ; #": {Kind: api.StmtPut, Name: "a", Index: e, Expr: cell("a", num(2))},
	} {
		want.Pos = at(2, 3)
		wantProgram(t, "thread t {\n  "+text+"\n}", api.Decl{Kind: api.DeclThread, Pos: at(1, 1), Name: "t", Body: []api.Stmt{want}})
	}
}

// P2.1: blocks in blocks, each statement with its place.
func TestBlocks(t *testing.T) {
	text := "thread t{if 1{x=2;join;}else{while 3{}}\nlock m;}"
	wantProgram(t, text, api.Decl{Kind: api.DeclThread, Pos: at(1, 1), Name: "t", Body: []api.Stmt{
		{Kind: api.StmtIf, Pos: at(1, 10), Expr: num(1),
			Body: []api.Stmt{{Kind: api.StmtSet, Pos: at(1, 15), Name: "x", Expr: num(2)}, {Kind: api.StmtJoin, Pos: at(1, 19)}},
			Else: []api.Stmt{{Kind: api.StmtWhile, Pos: at(1, 30), Expr: num(3)}}},
		{Kind: api.StmtLock, Pos: at(2, 1), Name: "m"},
	}})
	if got := mustParse(t, everyKind); len(got) != 8 || len(got[6].Body) != 8 || len(got[6].Body[3].Else) != 3 {
		t.Errorf("%+v", got)
	}
}

// exprOf tells the tree of an expression's text.
func exprOf(t *testing.T, text string) api.Expr {
	t.Helper()
	return mustParse(t, "thread t { print "+text+"; }")[0].Body[0].Expr
}

// P2.1: what stands on either side of an operator.
func TestOperands(t *testing.T) {
	a, b := named("a"), named("b")
	for text, want := range map[string]api.Expr{
		"0":           num(0),
		"2147483647":  num(2147483647),
		"a":           a,
		"(a)":         a,
		"((a))":       a,
		"a[b]":        cell("a", b),
		"a[(b)]":      cell("a", b),
		"a[a[b]]":     cell("a", cell("a", b)),
		"a[1||b]":     cell("a", bin(api.OpOr, num(1), b)),
		"-a":          neg(a),
		"!a":          not(a),
		"-(-1)":       neg(neg(num(1))),
		"--1":         neg(neg(num(1))),
		"-!-a":        neg(not(neg(a))),
		"-a[b]":       neg(cell("a", b)),
		"-a*b":        bin(api.OpMul, neg(a), b),
		"-(a*b)":      neg(bin(api.OpMul, a, b)),
		"a*-b":        bin(api.OpMul, a, neg(b)),
		"a--b":        bin(api.OpSub, a, neg(b)),
		"a---b":       bin(api.OpSub, a, neg(neg(b))),
		"!a==b":       bin(api.OpEq, not(a), b),
		"!(a==b)":     not(bin(api.OpEq, a, b)),
		"a!=!b":       bin(api.OpNe, a, not(b)),
		"(a<b)<a":     bin(api.OpLt, bin(api.OpLt, a, b), a),
		"a<(b<a)":     bin(api.OpLt, a, bin(api.OpLt, b, a)),
		"a||(b||a)":   bin(api.OpOr, a, bin(api.OpOr, b, a)),
		"(a||b)&&a":   bin(api.OpAnd, bin(api.OpOr, a, b), a),
		"1-2-3":       bin(api.OpSub, bin(api.OpSub, num(1), num(2)), num(3)),
		"1-(2-3)":     bin(api.OpSub, num(1), bin(api.OpSub, num(2), num(3))),
		"a<b&&b<a||1": bin(api.OpOr, bin(api.OpAnd, bin(api.OpLt, a, b), bin(api.OpLt, b, a)), num(1)),
	} {
		if got := exprOf(t, text); !reflect.DeepEqual(got, want) {
			t.Errorf("%q: got %+v, want %+v", text, got, want)
		}
	}
}

// signs are the chapter's lines of operators, the first one binding least.
var signs = [][]string{{"||"}, {"&&"}, {"==", "!=", "<", "<="}, {"+", "-"}, {"*", "/", "%"}}

var signOps = map[string]api.Op{
	"||": api.OpOr, "&&": api.OpAnd, "==": api.OpEq, "!=": api.OpNe, "<": api.OpLt, "<=": api.OpLe,
	"+": api.OpAdd, "-": api.OpSub, "*": api.OpMul, "/": api.OpDiv, "%": api.OpMod,
}

func lineOf(sign string) int {
	for i, l := range signs {
		for _, s := range l {
			if s == sign {
				return i
			}
		}
	}
	return -1
}

// split makes the tree of values with signs between them by the chapter's words: the last sign of the least line stands on top. It is false where two of the third line stand beside one another.
func split(values []api.Expr, between []string) (api.Expr, bool) {
	if len(between) == 0 {
		return values[0], true
	}
	top := 0
	for i, s := range between {
		if lineOf(s) <= lineOf(between[top]) {
			top = i
		}
	}
	a, okA := split(values[:top+1], between[:top])
	b, okB := split(values[top+1:], between[top+1:])
	crowd := lineOf(between[top]) == 2 && (a.Kind == api.ExprBin && lineOfOp(a.Op) == 2)
	return bin(signOps[between[top]], a, b), okA && okB && !crowd
}

func lineOfOp(op api.Op) int {
	for s, o := range signOps {
		if o == op {
			return lineOf(s)
		}
	}
	return -1
}

// P2.1, P2.2: all rows of up to four operators: how they group, and that they are printed without parentheses.
func TestGrouping(t *testing.T) {
	var all []string
	for _, l := range signs {
		all = append(all, l...)
	}
	var rows func(between []string)
	rows = func(between []string) {
		values := []api.Expr{num(0)}
		text := "0"
		for i, s := range between {
			values = append(values, num(int64(i+1)))
			text += " " + s + " " + strconv.Itoa(i+1)
		}
		want, ok := split(values, between)
		got, _, fault := Parse("thread t { print " + text + "; }")
		if ok != (fault == api.OK) || !ok && fault != api.ErrSyntax {
			t.Fatalf("%q: error %d", text, fault)
		}
		if ok && !reflect.DeepEqual(got[0].Body[0].Expr, want) {
			t.Fatalf("%q: got %+v, want %+v", text, got[0].Body[0].Expr, want)
		}
		if s, _ := Expr(want); ok && s != text {
			t.Fatalf("%q is printed as %q", text, s)
		}
		if len(between) < 4 {
			for _, s := range all {
				rows(append(between[:len(between):len(between)], s))
			}
		}
	}
	rows(nil)
}

// P2.1: of a whole program cut short anywhere, the place is the text's end.
func TestTooSoon(t *testing.T) {
	words, _, _ := lex.Lex(everyKind)
	whole := map[int]bool{0: true}
	for n, depth := 0, 0; n < len(words); n++ {
		switch words[n].Text {
		case "{":
			depth++
		case "}":
			depth--
		}
		end := words[n].Text == ";" || words[n].Text == "}"
		whole[n+1] = end && depth == 0
	}
	for n := range words {
		text := ""
		for _, w := range words[:n] {
			text += w.Text + "\n"
		}
		for _, tail := range []string{"", "  ", "#x", "\n\n"} {
			end := lex.End(text + tail)
			if whole[n] {
				mustParse(t, text+tail)
			} else {
				wantRefused(t, text+tail, api.ErrSyntax, end.Line, end.Col)
			}
		}
	}
	wantRefused(t, "var", api.ErrSyntax, 1, 4)
	wantRefused(t, "var x = 3", api.ErrSyntax, 1, 10)
	wantRefused(t, "thread t {\n", api.ErrSyntax, 2, 1)
	wantRefused(t, "thread t { if x { }", api.ErrSyntax, 1, 20)
	wantRefused(t, "thread t { print 1", api.ErrSyntax, 1, 19)
}

// P2.1: words that can't stand there, at the first of them.
func TestErrSyntax(t *testing.T) {
	for text, col := range map[string]int{
		";": 1, "}": 1, "x": 1, "7": 1, "let x = 1;": 1, "print 1;": 1, "else": 1, "=": 1,
		"var x = 3;;": 11, "var x = 3 4;": 11, "var 3 = x;": 5, "var x = y;": 9, "var x = --3;": 10, "var x = -y;": 10, "var x = (3);": 9,
		"var x = 1 + 2;": 11, "var var = 1;": 5, "var x;": 6, "var x == 3;": 7, "var x = 3,": 0,
		"array a;": 8, "array a = 3;": 9, "array a -3;": 9, "array a b;": 9, "array a [4];": 9, "array a 4 4;": 11,
		"mutex m = 1;": 9, "mutex m 1;": 9, "mutex;": 6, "mutex m, n;": 0, "cond c m;": 8, "cond 1;": 6,
		"chan q;": 7, "chan q -1;": 8, "chan q = 2;": 8, "chan chan 2;": 6,
		"thread { }": 8, "thread t;": 9, "thread t { };": 13, "thread t { } }": 14, "thread t ( ) { }": 10, "thread main main { }": 13,
		"thread t { ; }": 12, "thread t { var x = 1; }": 12, "thread t { thread u { } }": 12, "thread t { { } }": 12, "thread t { 3 = x; }": 12, "thread t { (x) = 3; }": 12,
		"thread t { else { } }": 12, "thread t { -x = 3; }": 12,
		"thread t { x; }": 13, "thread t { x == 3; }": 14, "thread t { x + 1; }": 14, "thread t { x = ; }": 16, "thread t { x = 1 }": 18, "thread t { x = y = 1; }": 18, "thread t { x = 1, }": 0,
		"thread t { x[] = 1; }": 14, "thread t { x[1 = 1; }": 16, "thread t { x[1]; }": 16, "thread t { x[1][2] = 3; }": 16, "thread t { x[1,2] = 3; }": 0,
		"thread t { let 3 = 1; }": 16, "thread t { let x; }": 17, "thread t { let x 1; }": 18, "thread t { let a[1] = 2; }": 17, "thread t { let let = 1; }": 16,
		"thread t { if { } }": 15, "thread t { if 1; }": 16, "thread t { if 1 x = 1; }": 17, "thread t { if 1 { }; }": 20, "thread t { if 1 { } else; }": 25, "thread t { if 1 { } else if 2 { } }": 26, "thread t { if 1 { } else { } else { } }": 30, "thread t { if x = 1 { } }": 17,
		"thread t { while { } }": 18, "thread t { while 1 { } else { } }": 24, "thread t { while 1; }": 19,
		"thread t { lock; }": 16, "thread t { lock m n; }": 19, "thread t { lock 1; }": 17, "thread t { lock m[1]; }": 18, "thread t { lock (m); }": 17, "thread t { unlock; }": 18,
		"thread t { wait c; }": 18, "thread t { wait; }": 16, "thread t { wait c m m; }": 21, "thread t { wait c 1; }": 19, "thread t { signal; }": 18, "thread t { signal c m; }": 21, "thread t { all; }": 15, "thread t { all 1; }": 16,
		"thread t { send q; }": 18, "thread t { send 1 q; }": 17, "thread t { send q = 1; }": 19, "thread t { send q x y; }": 21, "thread t { send q [1]; }": 19,
		"thread t { recv q; }": 18, "thread t { recv q 1; }": 19, "thread t { recv q a[1]; }": 20, "thread t { recv q x y; }": 21,
		"thread t { spawn; }": 17, "thread t { spawn t(); }": 19, "thread t { spawn t 1; }": 20, "thread t { join t; }": 17, "thread t { join }": 17,
		"thread t { print; }": 17, "thread t { print 1 2; }": 20, "thread t { print a b; }": 20, "thread t { print ; }": 18, "thread t { print x = 1; }": 20,
		"thread t { print (); }": 19, "thread t { print (1; }": 20, "thread t { print 1); }": 19, "thread t { print [1]; }": 18, "thread t { print a[]; }": 20, "thread t { print a[1; }": 21, "thread t { print a[1][2]; }": 22, "thread t { print (a)[1]; }": 21, "thread t { print 1[2]; }": 19,
		"thread t { print +1; }": 18, "thread t { print 1 +; }": 21, "thread t { print 1 + + 2; }": 22, "thread t { print 1 + * 2; }": 22, "thread t { print 1 !; }": 20, "thread t { print 1 ! 2; }": 20, "thread t { print -; }": 19, "thread t { print lock; }": 18, "thread t { print a == b == c; }": 25, "thread t { print a <= b != c; }": 25, "thread t { print a + b < c < d; }": 28, "thread t { print a && b < c < d; }": 29, "thread t { print a || b < c + d <= e; }": 33, "thread t { print (a < b < c); }": 25, "thread t { print a[a < b < c]; }": 26, "thread t { print a < b || c < d < e; }": 33, "thread t { print a < !b < c; }": 25,
	} {
		if col > 0 {
			wantRefused(t, text, api.ErrSyntax, 1, col)
			wantRefused(t, "mutex m;\n"+text+" } ; print", api.ErrSyntax, 2, col)
		} else if _, _, fault := Parse(text); fault != api.ErrByte {
			t.Errorf("%q: error %d, want layer 1's", text, fault)
		}
	}
}

// P2.1: errors of layer 1, with their places, are ahead of all others.
func TestErrorsOfLayer1(t *testing.T) {
	for text, want := range map[string]struct {
		fault     api.Errno
		line, col int
	}{
		"var x = 3; ?":      {api.ErrByte, 1, 12},
		"var x 3;\n &":      {api.ErrByte, 2, 2},
		"; abc_d":           {api.ErrByte, 1, 6},
		"; 07":              {api.ErrNumber, 1, 3},
		"var x = 3a":        {api.ErrNumber, 1, 9},
		"a2345678901234567": {api.ErrName, 1, 1},
		"thread t { print " + strings.Repeat("-", 30) + "1; } 2147483648": {api.ErrNumber, 1, 53},
		"var x = -2147483648;": {api.ErrNumber, 1, 10},
	} {
		wantRefused(t, text, want.fault, want.line, want.col)
	}
	long := "mutex m;" + strings.Repeat(" ", api.MaxText-8)
	wantProgram(t, long, api.Decl{Kind: api.DeclMutex, Pos: at(1, 1), Name: "m"})
	wantRefused(t, long+" ", api.ErrLong, 0, 0)
	wantRefused(t, strings.Repeat("?", api.MaxText+1), api.ErrLong, 0, 0)
	wantRefused(t, "mutex m"+strings.Repeat(" ", api.MaxText-7), api.ErrSyntax, 1, api.MaxText+1)
	wantProgram(t, "mutex a234567890123456;", api.Decl{Kind: api.DeclMutex, Pos: at(1, 1), Name: "a234567890123456"})
}

// depthTexts are texts of an expression that is so deep.
func depthTexts(n int) []string {
	all := func(s string) string { return strings.Repeat(s, n-1) }
	texts := []string{
		all("-") + "1", all("!") + "x",
		"1" + all("+1"), "1" + all("||x"), "x" + all("*x") + "", all("1+(") + "1" + all(")"), all("a[") + "1" + all("]"),
		all("(1<") + "1" + all(")"), "((" + all("(-") + "(1)" + all(")") + "))",
	}
	if n > 3 {
		texts = append(texts, "1 < 2 || -a["+strings.Repeat("-", n-4)+"1]", strings.Repeat("-", n-3)+"(2 == 1 + 2)", "-!a[1"+strings.Repeat("-1", n-4)+"]")
	}
	return texts
}

// P2.1: expressions at the bound of depth, and one past it, in each statement that has one.
func TestDeepExpressions(t *testing.T) {
	places := []string{"let y = @;", "y = @;", "a[@] = 1;", "a[1] = @;", "if @ { }", "while @ { }", "send q @;", "print @;", "if 1 { } else { print @; }", "a[@] = @;"}
	for _, place := range places {
		for _, e := range depthTexts(api.MaxDepth) {
			mustParse(t, "thread t { "+strings.ReplaceAll(place, "@", e)+" }")
		}
		for _, e := range depthTexts(api.MaxDepth + 1) {
			col := 12
			if strings.Contains(place, "else") {
				col += len("if 1 { } else { ")
			}
			wantRefused(t, "thread t { "+strings.ReplaceAll(place, "@", e)+" }", api.ErrDeep, 1, col)
		}
	}
	wantRefused(t, "thread t { print "+strings.Repeat("!", 60000)+"1; }", api.ErrDeep, 1, 12)
	wantRefused(t, "thread t { print 1"+strings.Repeat("+1", 30000)+"; }", api.ErrDeep, 1, 12)
	many := strings.Repeat("(", 32000)
	if got := exprOf(t, many+"1"+strings.ReplaceAll(many, "(", ")")); !reflect.DeepEqual(got, num(1)) {
		t.Errorf("parentheses are no depth: %v", got)
	}
}

// P2.1: blocks at the bound of depth, and one past it.
func TestDeepBlocks(t *testing.T) {
	inside := func(n int, open, inner string) string {
		return "thread t {" + strings.Repeat(open, n) + inner + strings.Repeat("}", n) + "}"
	}
	for _, open := range []string{"while 1 {", "if 1 {", "if 1 { } else {"} {
		mustParse(t, inside(api.MaxDepth-1, open, "join;"))
		mustParse(t, inside(api.MaxDepth, open, ""))
		wantRefused(t, inside(api.MaxDepth, open, "join;"), api.ErrDeep, 1, 11+api.MaxDepth*len(open))
		wantRefused(t, inside(api.MaxDepth, open, "join; join; print "+strings.Repeat("-", 30)+"1;"), api.ErrDeep, 1, 11+api.MaxDepth*len(open))
		wantRefused(t, inside(4000, open, ""), api.ErrDeep, 1, 11+api.MaxDepth*len(open))
		wantRefused(t, inside(api.MaxDepth+1, open, ""), api.ErrDeep, 1, 11+api.MaxDepth*len(open))
		wantRefused(t, inside(4000, open, "")+"}", api.ErrSyntax, 1, 12+4000*(len(open)+1))
	}
}

// P2.1: of statements that are too deep the first one's place is told, and only where all words stand right.
func TestFirstDeep(t *testing.T) {
	deep := strings.Repeat("-", api.MaxDepth) + "1"
	wantRefused(t, "thread t {\nif "+deep+" { print "+deep+"; }\nprint "+deep+"; }", api.ErrDeep, 2, 1)
	wantRefused(t, "thread t {\nif 1 {\n print "+deep+"; } else {\n print "+deep+"; }\nprint "+deep+"; }", api.ErrDeep, 3, 2)
	wantRefused(t, "thread t {\nif 1 {\n print 1; } else {\n print "+deep+"; }\nprint "+deep+"; }", api.ErrDeep, 4, 2)
	wantRefused(t, "thread t { }\nthread u { join;\nprint "+deep+"; } thread v { print "+deep+"; }", api.ErrDeep, 3, 1)
	wantRefused(t, "thread t { print "+deep+"; } var", api.ErrSyntax, 1, 50)
	wantRefused(t, "thread t { print "+deep+"; } x", api.ErrSyntax, 1, 47)
	wantRefused(t, "thread t { print "+deep+"; } 0x", api.ErrNumber, 1, 47)
}

// P2.1: what a caller does to an answer changes no other one, nor another part of it.
func TestParseIsNew(t *testing.T) {
	first, second := mustParse(t, everyKind), mustParse(t, everyKind)
	spoil(first)
	if !reflect.DeepEqual(second, mustParse(t, everyKind)) {
		t.Error("two answers share something")
	}
	one := mustParse(t, "thread t { a[1] = 2; a[1] = 2; } thread u { a[1] = 2; }")
	one[0].Body[0].Index = num(9)
	_ = append(one[0].Body[:1], api.Stmt{})
	_ = append(one[:1], api.Decl{})
	_ = append(one[0].Body, api.Stmt{})
	if one[0].Body[0].Expr.Num != 2 {
		t.Error("parts of one answer share something")
	}
}

// spoil changes all that a program holds, spare room included.
func spoil(l []api.Decl) {
	for i := range l {
		spoilBlock(l[i].Body)
		l[i] = api.Decl{Name: "spoilt"}
	}
}

func spoilBlock(l []api.Stmt) {
	for i := range l {
		spoilBlock(l[i].Body)
		spoilBlock(l[i].Else)
		spoilArgs(l[i].Expr.Args)
		spoilArgs(l[i].Index.Args)
		l[i] = api.Stmt{Name: "spoilt"}
	}
	_ = append(l, api.Stmt{Name: "spoilt"})
}

func spoilArgs(l []api.Expr) {
	for i := range l {
		spoilArgs(l[i].Args)
		l[i] = api.Expr{Name: "spoilt"}
	}
	_ = append(l, api.Expr{Name: "spoilt"})
}
