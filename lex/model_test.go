package lex

import (
	"reflect"
	"regexp"
	"slices"
	"strconv"
	"strings"
	"testing"

	"warp/api"
)

// The model is told in regular expressions, so that it shares nothing with the reader.
var (
	modelGap    = regexp.MustCompile(`^(?:[ \t\r\n]|#[^\n]*)*`)
	modelWord   = regexp.MustCompile(`^[a-z][a-z0-9]*`)
	modelDigits = regexp.MustCompile(`^[0-9]+`)
	modelSign   = regexp.MustCompile(`^(?:==|!=|<=|&&|\|\||[;(){}\[\]=<+\-*/%!])`)
)

// modelPlace tells the place of a text's byte.
func modelPlace(text string, at int) api.Pos {
	ahead := text[:at]
	return api.Pos{Line: 1 + strings.Count(ahead, "\n"), Col: at - strings.LastIndex(ahead, "\n")}
}

// modelNext tells the word that a text begins with.
func modelNext(text string) (api.Tok, api.Errno) {
	if s := modelWord.FindString(text); s != "" {
		if len(s) > api.MaxName {
			return api.Tok{}, api.ErrName
		}
		if slices.Contains(testKeywords, s) {
			return api.Tok{Kind: api.TokWord, Text: s}, api.OK
		}
		return api.Tok{Kind: api.TokName, Text: s}, api.OK
	}
	if s := modelDigits.FindString(text); s != "" {
		n, err := strconv.ParseInt(s, 10, 32)
		if err != nil || strconv.FormatInt(n, 10) != s || modelWord.MatchString(text[len(s):]) {
			return api.Tok{}, api.ErrNumber
		}
		return api.Tok{Kind: api.TokNumber, Text: s, Num: n}, api.OK
	}
	if s := modelSign.FindString(text); s != "" {
		return api.Tok{Kind: api.TokSign, Text: s}, api.OK
	}
	return api.Tok{}, api.ErrByte
}

func modelLex(text string) ([]api.Tok, api.Pos, api.Errno) {
	var list []api.Tok
	for at := 0; ; {
		at += len(modelGap.FindString(text[at:]))
		if at == len(text) {
			return list, api.Pos{}, api.OK
		}
		word, fault := modelNext(text[at:])
		if fault != api.OK {
			return nil, modelPlace(text, at), fault
		}
		word.Pos = modelPlace(text, at)
		list = append(list, word)
		at += len(word.Text)
	}
}

// checkText holds Lex and End against the model, and looks at P1.3.
func checkText(t *testing.T, text string) {
	t.Helper()
	got, place, fault := Lex(text)
	want, wantPlace, wantFault := modelLex(text)
	if fault != wantFault || place != wantPlace || len(got) != len(want) || len(want) > 0 && !reflect.DeepEqual(got, want) {
		t.Fatalf("%q: got %v, %v, %d; want %v, %v, %d", text, got, place, fault, want, wantPlace, wantFault)
	}
	if end := End(text); end != modelPlace(text, len(text)) {
		t.Fatalf("%q: end %v", text, end)
	}
	if is := len(want) == 1 && want[0].Kind == api.TokName && want[0].Text == text; Name(text) != is {
		t.Fatalf("%q: a name? %v", text, !is)
	}
	checkStand(t, text, got)
	checkAgain(t, got)
}

// checkStand: words are at rising places, and stand there in the text.
func checkStand(t *testing.T, text string, words []api.Tok) {
	t.Helper()
	lines := strings.Split(text, "\n")
	last := api.Pos{}
	for _, w := range words {
		if w.Pos.Line < last.Line || w.Pos.Line == last.Line && w.Pos.Col <= last.Col {
			t.Fatalf("%q: %v is not behind %v", text, w.Pos, last)
		}
		last = w.Pos
		if !strings.HasPrefix(lines[w.Pos.Line-1][w.Pos.Col-1:], w.Text) || w.Text == "" {
			t.Fatalf("%q: no %q at %v", text, w.Text, w.Pos)
		}
	}
}

// checkAgain: the words' texts with a blank between are the same words.
func checkAgain(t *testing.T, words []api.Tok) {
	t.Helper()
	texts := make([]string, len(words))
	for i, w := range words {
		texts[i] = w.Text
	}
	text := strings.Join(texts, " ")
	if len(text) > api.MaxText {
		return
	}
	again, _, fault := Lex(text)
	if fault != api.OK || len(again) != len(words) {
		t.Fatalf("%q: %d words, error %d, want %d words", text, len(again), fault, len(words))
	}
	for i, w := range again {
		w.Pos = words[i].Pos
		if w != words[i] {
			t.Fatalf("%q: got %v, want %v", text, w, words[i])
		}
	}
}

// P1.1, P1.2, P1.3: all short texts of bytes of each sort.
func TestAllShortTexts(t *testing.T) {
	const letters = "az019=<!&|;# \n\rA\xc3\xa9"
	for _, text := range textsOf(letters, 4) {
		checkText(t, text)
	}
}

// textsOf tells all texts of at most n of the bytes.
func textsOf(bytes string, n int) []string {
	texts := []string{""}
	for from, length := 0, 0; length < n; length++ {
		until := len(texts)
		for _, s := range texts[from:until] {
			for i := range len(bytes) {
				texts = append(texts, s+bytes[i:i+1])
			}
		}
		from = until
	}
	return texts
}

// P1.1, P1.2, P1.3: pieces about the bounds, one behind the other.
func TestPieces(t *testing.T) {
	pieces := append([]string{
		"abcdefghijklmno", "x", "9", "2147483647", "2147483648", "0", "00", "1a", " ", "\n", "\t", "\r\n",
		"# remark\n", "#", "&", "|", "_", "Z", "\x00", "\xff", "é",
	}, testSigns...)
	pieces = append(pieces, testKeywords...)
	for _, a := range pieces {
		for _, b := range pieces {
			for _, c := range pieces {
				checkText(t, a+b+c)
			}
		}
	}
}

// P1.3: a whole program, and one whose texts just fit, or no more, with blanks between.
func TestProgram(t *testing.T) {
	checkText(t, `# two threads
var n = 0; array a 4; mutex m; cond c; chan q 2;
thread main { spawn t; lock m; while n == 0 { wait c m; } unlock m; recv q n; join; print a[n % 4] || !n; }
thread t { let y = -(n + 1) * 2; if y <= 3 && y != 1 { a[0] = y / 2; } else { n = n - 1; } lock m; n = 1; all c; signal c; unlock m; send q n < 5; }
`)
	for _, n := range []int{api.MaxText / 2, api.MaxText/2 + 1, api.MaxText} {
		checkText(t, strings.Repeat(";", n))
	}
}

func FuzzLex(f *testing.F) {
	for _, s := range []string{"", "var x1=-7;#no", "a<=b\n==", "x & y", "07", "3a", "2147483648", "\xff"} {
		f.Add(s)
	}
	f.Fuzz(func(t *testing.T, text string) {
		if len(text) <= api.MaxText {
			checkText(t, text)
		}
	})
}
