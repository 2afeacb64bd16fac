package syntax

import (
	"maps"
	"slices"
	"strings"
	"testing"

	"warp/api"
	"warp/lex"
)

// modelRules are the chapter's, each { } and [ ] as a rule of its own; | parts what may stand instead, an empty part is nothing. Which words may follow is found by trying all rules at once, so it shares nothing with the reader.
const modelRules = `
program = decl program |
decl = var NAME = minus NUMBER ; | array NAME NUMBER ; | mutex NAME ; | cond NAME ; | chan NAME NUMBER ; | thread NAME block
minus = - |
block = { stmts }
stmts = stmt stmts |
stmt = let NAME = expr ; | NAME = expr ; | NAME [ expr ] = expr ; | if expr block else | while expr block | lock NAME ; | unlock NAME ; | wait NAME NAME ; | signal NAME ; | all NAME ; | send NAME expr ; | recv NAME NAME ; | spawn NAME ; | join ; | print expr ;
else = ELSE block |
expr = and ors
ors = OR and ors |
and = rel ands
ands = && rel ands |
rel = sum rels
rels = == sum | != sum | < sum | <= sum |
sum = prod sums
sums = + prod sums | - prod sums |
prod = un prods
prods = * un prods | / un prods | % un prods |
un = - un | ! un | prim
prim = NUMBER | NAME | NAME [ expr ] | ( expr )
`

type model map[string][][]string

func newModel() model {
	m := model{}
	for _, line := range strings.Split(strings.TrimSpace(modelRules), "\n") {
		name, right, _ := strings.Cut(line, " = ")
		for _, s := range cutBars(right) {
			m[name] = append(m[name], strings.Fields(s))
		}
	}
	return m
}

// cutBars cuts at each | that is a word.
func cutBars(right string) []string {
	l := []string{""}
	for _, w := range strings.Fields(right) {
		if w == "|" {
			l = append(l, "")
		} else {
			l[len(l)-1] += w + " "
		}
	}
	return l
}

// states are the ways in which a text may go on: what is still wanted, as words and rules with blanks between.
type states map[string]bool

// open puts all rules' parts for the rules that stand first.
func (m model) open(from states) states {
	to := states{}
	todo := slices.Collect(maps.Keys(from))
	for len(todo) > 0 {
		s := todo[len(todo)-1]
		todo = todo[:len(todo)-1]
		first, rest, _ := strings.Cut(s, " ")
		rules, is := m[first]
		if !is {
			to[s] = true
			continue
		}
		for _, r := range rules {
			todo = append(todo, strings.TrimSpace(strings.Join(r, " ")+" "+rest))
		}
	}
	return to
}

// after tells how a text may go on behind a word; no state, if the word can't stand there.
func (m model) after(from states, w api.Tok) states {
	want := w.Text
	switch {
	case w.Kind == api.TokName:
		want = "NAME"
	case w.Kind == api.TokNumber:
		want = "NUMBER"
	case want == "else":
		want = "ELSE"
	case want == "||":
		want = "OR"
	}
	to := states{}
	for s := range from {
		if first, rest, _ := strings.Cut(s, " "); first == want {
			to[rest] = true
		}
	}
	return m.open(to)
}

func (m model) begin() states { return m.open(states{"program": true}) }

// place tells where a text of words has its first word that can't stand there, or its end, if it ends too soon.
func (m model) place(text string) (api.Pos, bool) {
	words, _, _ := lex.Lex(text)
	s := m.begin()
	for _, w := range words {
		if s = m.after(s, w); len(s) == 0 {
			return w.Pos, false
		}
	}
	if s[""] {
		return api.Pos{}, true
	}
	return lex.End(text), false
}

// checkPlaces goes over all rows of the words behind a beginning, as long as they may stand there, and one word further, which has the error's place. What stands behind that changes nothing.
func checkPlaces(t *testing.T, m model, from, words string, n int) {
	t.Helper()
	count := 0
	var try func(text string, s states, left int)
	try = func(text string, s states, left int) {
		checkPlace(t, text, lex.End(text), s[""])
		if left == 0 {
			return
		}
		for _, w := range strings.Fields(words) {
			tok, _, _ := lex.Lex(w)
			longer := text + " " + w
			if next := m.after(s, tok[0]); len(next) > 0 {
				try(longer, next, left-1)
			} else {
				end := lex.End(text)
				checkPlace(t, longer, api.Pos{Line: end.Line, Col: end.Col + 1}, false)
				checkPlace(t, longer+"\nvar ;", api.Pos{Line: end.Line, Col: end.Col + 1}, false)
			}
			count++
		}
	}
	s := m.begin()
	list, _, _ := lex.Lex(from)
	for _, w := range list {
		s = m.after(s, w)
	}
	try(from, s, n)
	if count < 1000 {
		t.Errorf("%q: only %d texts were looked at", from, count)
	}
}

func checkPlace(t *testing.T, text string, want api.Pos, ok bool) {
	t.Helper()
	l, place, fault := Parse(text)
	switch {
	case ok:
		if fault != api.OK || place != (api.Pos{}) {
			t.Fatalf("%q: error %d at %v, want none", text, fault, place)
		}
	case fault != api.ErrSyntax || place != want || len(l) != 0:
		t.Fatalf("%q: error %d at %v, want %d at %v", text, fault, place, api.ErrSyntax, want)
	}
}

// P2.1: where words can't stand, against the chapter's rules read in another way.
func TestAgainstRules(t *testing.T) {
	m := newModel()
	if place, ok := m.place(everyKind); !ok {
		t.Fatal("the model is wrong at", place)
	}
	all := "; ( ) { } [ ] = == != < <= + - * / % && || ! x 7 " +
		"var array mutex cond chan thread let if else while lock unlock wait signal all send recv spawn join print"
	checkPlaces(t, m, "", all, 6)
	checkPlaces(t, m, "thread t {", all, 4)
	checkPlaces(t, m, "thread t { if 1 { } ", all, 4)
	checkPlaces(t, m, "thread t { x", all, 4)
	checkPlaces(t, m, "thread t { print", "x 7 ( ) [ ] - ! < == + * && || ;", 5)
	checkPlaces(t, m, "thread t { print x < y", "x ( ) [ ] < != - || ; {", 6)
	checkPlaces(t, m, "thread t { while (x", "x ) [ ] < + { }", 7)
}

// P2.1: a whole program with one word left out, put in, or put instead of another.
func TestOneWordWrong(t *testing.T) {
	m := newModel()
	words, _, _ := lex.Lex(everyKind)
	join := func(l []api.Tok) string {
		texts := make([]string, len(l))
		for i, w := range l {
			texts[i] = w.Text
		}
		return strings.Join(texts, "\n")
	}
	check := func(l []api.Tok) {
		text := join(l)
		want, ok := m.place(text)
		checkPlace(t, text, want, ok)
	}
	for i := range words {
		check(slices.Delete(slices.Clone(words), i, i+1))
		for _, s := range []string{";", "=", "x", "7", "(", "}", "-", "<", "else", "var", "if", "join"} {
			w := api.Tok{Text: s}
			check(slices.Insert(slices.Clone(words), i, w))
			check(slices.Replace(slices.Clone(words), i, i+1, w))
		}
	}
}

// checkText looks at all that is promised of a text.
func checkText(t *testing.T, m model, text string) {
	t.Helper()
	_, lexPlace, lexFault := lex.Lex(text)
	l, place, fault := Parse(text)
	if lexFault != api.OK {
		if fault != lexFault || place != lexPlace || len(l) != 0 {
			t.Fatalf("%q: error %d at %v, want layer 1's", text, fault, place)
		}
		return
	}
	want, ok := m.place(text)
	if !ok {
		checkPlace(t, text, want, false)
		return
	}
	if fault == api.ErrDeep {
		return
	}
	if fault != api.OK || Check(l) != api.OK {
		t.Fatalf("%q: error %d", text, fault)
	}
	printed, fault := Print(l)
	if fault != api.OK || len(printed) > api.MaxText {
		return
	}
	again, _, fault := Parse(printed)
	if fault != api.OK || !Same(again, l) {
		t.Fatalf("%q: printed as %q, error %d", text, printed, fault)
	}
	if twice, _ := Print(again); twice != printed {
		t.Fatalf("%q: printed as %q, then as %q", text, printed, twice)
	}
}

func FuzzParse(f *testing.F) {
	m := newModel()
	for _, s := range []string{"", everyKind, "var x 3;", "thread t { print a < b < c;", "thread t{a[-1]=!2;}"} {
		f.Add(s)
	}
	f.Fuzz(func(t *testing.T, text string) {
		if len(text) <= 4000 {
			checkText(t, m, text)
		}
	})
}
