package syntax

import (
	"math/rand"
	"reflect"
	"strings"
	"testing"

	"warp/api"
)

// P2.2: the chapter's examples.
func TestChapterTexts(t *testing.T) {
	l := mustParse(t, "var x=-3;thread main{print(x+1)*2;}")
	wantPrinted(t, l, "var x = -3;\nthread main {\n\tprint (x + 1) * 2;\n}\n")
	for from, want := range map[string]string{"1-2-3": "1 - 2 - 3", "1-(2-3)": "1 - (2 - 3)", "-(-1)": "--1", "!a==b": "!a == b"} {
		wantExpr(t, exprOf(t, from), want)
	}
}

// P2.2: a program's text, each declaration, statement and block.
func TestTexts(t *testing.T) {
	wantPrinted(t, nil, "")
	wantPrinted(t, mustParse(t, everyKind), everyKind)
	squeezed := strings.NewReplacer("\n", " ", "\t", "").Replace(everyKind)
	wantPrinted(t, mustParse(t, squeezed), everyKind)
	wantPrinted(t, mustParse(t, "var x=-0;array a 0;chan q 2147483647;"), "var x = 0;\narray a 0;\nchan q 2147483647;\n")
	wantPrinted(t, mustParse(t, "thread t{if 1{}else{}}"), "thread t {\n\tif 1 {\n\t}\n}\n")
	wantPrinted(t, mustParse(t, "thread t{if 1{}else{join;}}"), "thread t {\n\tif 1 {\n\t} else {\n\t\tjoin;\n\t}\n}\n")
	wantPrinted(t, mustParse(t, "thread t{while(x){if(1){}}}thread u{}"), "thread t {\n\twhile x {\n\t\tif 1 {\n\t\t}\n\t}\n}\nthread u {\n}\n")
	wantPrinted(t, mustParse(t, "thread t{a[(a[1])]=(-(2));send q(1);send q-1;}"), "thread t {\n\ta[a[1]] = -2;\n\tsend q 1;\n\tsend q -1;\n}\n")
	empty := []api.Stmt{{Kind: api.StmtIf, Expr: num(1), Body: []api.Stmt{}, Else: []api.Stmt{}}}
	wantPrinted(t, thread(empty...), "thread t {\n\tif 1 {\n\t}\n}\n")
}

// P2.2: no parentheses around what stands whole in a statement, whatever binds least in it.
func TestWholeExpressions(t *testing.T) {
	for kind := api.StmtLet; kind <= api.StmtPrint; kind++ {
		s := stmtOf(kind)
		if s.Expr.Kind == api.ExprNone {
			continue
		}
		s.Expr, s.Body, s.Else = bin(api.OpOr, named("b"), named("c")), nil, nil
		if kind == api.StmtPut {
			s.Index = s.Expr
		}
		text, fault := Print(thread(s))
		if fault != api.OK || !strings.Contains(text, " b || c") || strings.Contains(text, "(") {
			t.Errorf("%q, error %d", text, fault)
		}
	}
}

// P2.2: expressions, and the parentheses that the tree asks for.
func TestExpr(t *testing.T) {
	a, b, c := named("a"), named("b"), named("c")
	add, mul, lt, and, or := bin(api.OpAdd, a, b), bin(api.OpMul, a, b), bin(api.OpLt, a, b), bin(api.OpAnd, a, b), bin(api.OpOr, a, b)
	for want, e := range map[string]api.Expr{
		"0":                       num(0),
		"2147483647":              num(2147483647),
		"a":                       a,
		"a[b]":                    cell("a", b),
		"a[b[0]]":                 cell("a", cell("b", num(0))),
		"a[a || b]":               cell("a", or),
		"--a":                     neg(neg(a)),
		"!!a":                     not(not(a)),
		"-!-a":                    neg(not(neg(a))),
		"-a[b]":                   neg(cell("a", b)),
		"-(a + b)":                neg(add),
		"-(a * b)":                neg(mul),
		"!(a || b)":               not(or),
		"!-(a < b)":               not(neg(lt)),
		"-a * b":                  bin(api.OpMul, neg(a), b),
		"a * -b":                  bin(api.OpMul, a, neg(b)),
		"a - -b":                  bin(api.OpSub, a, neg(b)),
		"a - --b":                 bin(api.OpSub, a, neg(neg(b))),
		"a + b + c":               bin(api.OpAdd, add, c),
		"c + (a + b)":             bin(api.OpAdd, c, add),
		"a + b - c":               bin(api.OpSub, add, c),
		"c - (a + b)":             bin(api.OpSub, c, add),
		"a * b / c":               bin(api.OpDiv, mul, c),
		"c % (a * b)":             bin(api.OpMod, c, mul),
		"(a + b) * c":             bin(api.OpMul, add, c),
		"c * (a + b)":             bin(api.OpMul, c, add),
		"a * b + c":               bin(api.OpAdd, mul, c),
		"c + a * b":               bin(api.OpAdd, c, mul),
		"(a < b) < c":             bin(api.OpLt, lt, c),
		"c <= (a < b)":            bin(api.OpLe, c, lt),
		"(a < b) == (a < b)":      bin(api.OpEq, lt, lt),
		"a + b < a * b":           bin(api.OpLt, add, mul),
		"(a < b) + c":             bin(api.OpAdd, lt, c),
		"a && b && c":             bin(api.OpAnd, and, c),
		"c && (a && b)":           bin(api.OpAnd, c, and),
		"a < b && a < b":          bin(api.OpAnd, lt, lt),
		"(a && b) != c":           bin(api.OpNe, and, c),
		"a && b || a && b":        bin(api.OpOr, and, and),
		"(a || b) && (a || b)":    bin(api.OpAnd, or, or),
		"a || b || (a || b)":      bin(api.OpOr, or, or),
		"(a || b) * -(a && b)":    bin(api.OpMul, or, neg(and)),
		"a[a + b] * (a[-b] + 1)":  bin(api.OpMul, cell("a", add), bin(api.OpAdd, cell("a", neg(b)), num(1))),
		"a[!(a == b)] % -(1 - 2)": bin(api.OpMod, cell("a", not(bin(api.OpEq, a, b))), neg(bin(api.OpSub, num(1), num(2)))),
	} {
		wantExpr(t, e, want)
	}
}

// chance makes trees that may be, by a fixed row of numbers.
type chance struct{ *rand.Rand }

func (c chance) name() string { return []string{"a", "b", "x1", "a234567890123456"}[c.Intn(4)] }

func (c chance) expr(depth int) api.Expr {
	if depth <= 1 || c.Intn(6) == 0 {
		if c.Intn(2) == 0 {
			return num([]int64{0, 1, 7, 2147483647}[c.Intn(4)])
		}
		return named(c.name())
	}
	switch c.Intn(8) {
	case 0:
		return neg(c.expr(depth - 1))
	case 1:
		return not(c.expr(depth - 1))
	case 2:
		return cell(c.name(), c.expr(depth-1))
	}
	return bin(api.Op(1+c.Intn(11)), c.expr(depth-1), c.expr(depth-1))
}

func (c chance) block(depth, n int) []api.Stmt {
	var l []api.Stmt
	for range c.Intn(n + 1) {
		s := stmtOf(api.StmtKind(1 + c.Intn(15)))
		if s.Expr.Kind != api.ExprNone {
			s.Expr = c.expr(4)
		}
		if s.Index.Kind != api.ExprNone {
			s.Index = c.expr(3)
		}
		if s.Kind == api.StmtIf || s.Kind == api.StmtWhile {
			s.Body, s.Else = c.inner(depth, n), nil
			if s.Kind == api.StmtIf {
				s.Else = c.inner(depth, n)
			}
		}
		l = append(l, s)
	}
	return l
}

func (c chance) inner(depth, n int) []api.Stmt {
	if depth >= api.MaxDepth {
		return nil
	}
	return c.block(depth+1, n)
}

func (c chance) program() []api.Decl {
	var l []api.Decl
	for range c.Intn(8) {
		d := api.Decl{Kind: api.DeclKind(1 + c.Intn(6)), Name: c.name()}
		switch d.Kind {
		case api.DeclVar:
			d.Num = []int64{-2147483647, -1, 0, 1, 2147483647}[c.Intn(5)]
		case api.DeclArray, api.DeclChan:
			d.Num = []int64{0, 1, 2147483647}[c.Intn(3)]
		case api.DeclThread:
			d.Body = c.block(1, 4)
		}
		l = append(l, d)
	}
	return l
}

// around puts parentheses around each part.
func around(e api.Expr) string {
	switch e.Kind {
	case api.ExprNeg:
		return "(-" + around(e.Args[0]) + ")"
	case api.ExprNot:
		return "(!" + around(e.Args[0]) + ")"
	case api.ExprCell:
		return "(" + e.Name + "[" + around(e.Args[0]) + "])"
	case api.ExprBin:
		for s, op := range signOps {
			if op == e.Op {
				return "(" + around(e.Args[0]) + s + around(e.Args[1]) + ")"
			}
		}
	}
	text, _ := Expr(e)
	return "(" + text + ")"
}

// pairs tells the places of parentheses that belong together.
func pairs(text string) [][2]int {
	var open []int
	var l [][2]int
	for i, b := range []byte(text) {
		switch b {
		case '(':
			open = append(open, i)
		case ')':
			l = append(l, [2]int{open[len(open)-1], i})
			open = open[:len(open)-1]
		}
	}
	return l
}

// P2.1, P2.2, P2.4: expressions of each form: with all parentheses, and with those of Print, of which none may go.
func TestParentheses(t *testing.T) {
	c := chance{rand.New(rand.NewSource(1))}
	for range 20000 {
		e := c.expr(5)
		text, fault := Expr(e)
		if fault != api.OK {
			t.Fatal(fault, e)
		}
		if got := exprOf(t, around(e)); !reflect.DeepEqual(got, e) {
			t.Fatalf("%q is read as %+v", around(e), got)
		}
		if got := exprOf(t, text); !reflect.DeepEqual(got, e) {
			t.Fatalf("%q is read as %+v, printed from %+v", text, got, e)
		}
		for _, p := range pairs(text) {
			less := text[:p[0]] + text[p[0]+1:p[1]] + text[p[1]+1:]
			l, _, fault := Parse("thread t { print " + less + "; }")
			if fault == api.OK && reflect.DeepEqual(l[0].Body[0].Expr, e) {
				t.Fatalf("%q has parentheses that nothing asks for: %q", text, less)
			}
		}
	}
}

// P2.4: programs printed, parsed and printed again are the same, and so is what Parse told.
func TestThereAndBack(t *testing.T) {
	c := chance{rand.New(rand.NewSource(2))}
	m := newModel()
	deepest := 0
	for range 3000 {
		l := c.program()
		text, fault := Print(l)
		if fault != api.OK || Check(l) != api.OK {
			t.Fatal(fault, l)
		}
		deepest = max(deepest, strings.Count(text, "\t"))
		if len(text) > api.MaxText {
			continue
		}
		wantPrinted(t, l, text)
		wantLaid(t, text)
		if len(text) < 400 {
			checkText(t, m, text)
			checkText(t, m, strings.NewReplacer(" ", "\n", "\n", " ", ";", " ; ").Replace(text))
		}
	}
	if deepest < 5 {
		t.Error("no deep programs were made")
	}
}

// wantLaid fails unless the text has the blanks and lines that the chapter tells.
func wantLaid(t *testing.T, text string) {
	t.Helper()
	for _, s := range []string{"  ", " ;", " [", "[ ", " ]", "( ", " )", "! ", "\n\n", " \n", "\t\n", " \t", ";;", "\r"} {
		if strings.Contains(text, s) {
			t.Fatalf("%q stands in %q", s, text)
		}
	}
	tabs := 0
	for _, line := range strings.Split(strings.TrimSuffix(text, "\n"), "\n") {
		bare := strings.TrimLeft(line, "\t")
		if text == "" {
			break
		}
		if strings.HasPrefix(bare, "}") {
			tabs--
		}
		if len(line)-len(bare) != tabs || strings.Contains(bare, "\t") {
			t.Fatalf("%q: %q has not %d bytes 9 ahead", text, line, tabs)
		}
		if strings.HasSuffix(bare, "{") {
			tabs++
		} else if !strings.HasSuffix(bare, ";") && bare != "}" {
			t.Fatalf("%q: a line %q", text, line)
		}
	}
}

// P2.4: the longest text is parsed; one that is longer is Print's all the same.
func TestLongTexts(t *testing.T) {
	var l []api.Decl
	for range api.MaxText / 9 {
		l = append(l, api.Decl{Kind: api.DeclMutex, Name: "m"})
	}
	rest := api.MaxText - 9*len(l)
	l[0].Name = strings.Repeat("m", 1+rest)
	text, fault := Print(l)
	if fault != api.OK || len(text) != api.MaxText {
		t.Fatal(len(text), fault)
	}
	wantPrinted(t, l, text)
	l[1].Name = "mm"
	text, fault = Print(l)
	if fault != api.OK || len(text) != api.MaxText+1 {
		t.Fatal(len(text), fault)
	}
	wantRefused(t, text, api.ErrLong, 0, 0)
}
