package lex

import (
	"reflect"
	"strconv"
	"strings"
	"testing"

	"warp/api"
)

var (
	testKeywords = strings.Fields("var array mutex cond chan thread let if else while lock unlock wait signal all send recv spawn join print")
	testSigns    = strings.Fields("; ( ) { } [ ] = == != < <= + - * / % && || !")
)

func name(text string, line, col int) api.Tok {
	return api.Tok{Kind: api.TokName, Text: text, Pos: api.Pos{Line: line, Col: col}}
}

func whole(text string, num int64, line, col int) api.Tok {
	return api.Tok{Kind: api.TokNumber, Text: text, Num: num, Pos: api.Pos{Line: line, Col: col}}
}

func keyword(text string, line, col int) api.Tok {
	return api.Tok{Kind: api.TokWord, Text: text, Pos: api.Pos{Line: line, Col: col}}
}

func sign(text string, line, col int) api.Tok {
	return api.Tok{Kind: api.TokSign, Text: text, Pos: api.Pos{Line: line, Col: col}}
}

// wantWords fails unless the text has just these words.
func wantWords(t *testing.T, text string, want ...api.Tok) {
	t.Helper()
	got, place, fault := Lex(text)
	if fault != api.OK || place != (api.Pos{}) {
		t.Errorf("%.40q: error %d at %v, want none", text, fault, place)
		return
	}
	if len(got) != len(want) || len(want) > 0 && !reflect.DeepEqual(got, want) {
		t.Errorf("%.40q: got %v, want %v", text, got, want)
	}
}

// wantError fails unless the text has this error at this place, and no words beside it.
func wantError(t *testing.T, text string, want api.Errno, line, col int) {
	t.Helper()
	got, place, fault := Lex(text)
	if fault != want || place != (api.Pos{Line: line, Col: col}) {
		t.Errorf("%.40q: error %d at %v, want %d at %d, %d", text, fault, place, want, line, col)
	}
	if len(got) != 0 {
		t.Errorf("%.40q: words beside an error: %v", text, got)
	}
}

// P1.1: the chapter's examples.
func TestExamples(t *testing.T) {
	wantWords(t, "var x1=-7;#no",
		keyword("var", 1, 1), name("x1", 1, 5), sign("=", 1, 7), sign("-", 1, 8), whole("7", 7, 1, 9), sign(";", 1, 10))
	wantWords(t, "a<=b\n==",
		name("a", 1, 1), sign("<=", 1, 2), name("b", 1, 4), sign("==", 2, 1))
	wantError(t, "x & y", api.ErrByte, 1, 3)
	wantError(t, "07", api.ErrNumber, 1, 1)
	wantError(t, "3a", api.ErrNumber, 1, 1)
	wantError(t, "2147483648", api.ErrNumber, 1, 1)
}

// P1.1: each keyword and each sign is a word of its kind.
func TestKeywordsAndSigns(t *testing.T) {
	if len(testKeywords) != 20 || len(testSigns) != 20 {
		t.Fatal("the lists of this test are not the chapter's")
	}
	for _, w := range testKeywords {
		wantWords(t, w, keyword(w, 1, 1))
		wantWords(t, " "+w+";", keyword(w, 1, 2), sign(";", 1, 2+len(w)))
		wantWords(t, w+"x", name(w+"x", 1, 1))
		wantWords(t, w+"0", name(w+"0", 1, 1))
		wantWords(t, "x"+w, name("x"+w, 1, 1))
	}
	for _, s := range testSigns {
		wantWords(t, s, sign(s, 1, 1))
		wantWords(t, "a"+s+"7", name("a", 1, 1), sign(s, 1, 2), whole("7", 7, 1, 2+len(s)))
	}
}

// P1.1: a word is as long as it may be.
func TestLongestWord(t *testing.T) {
	wantWords(t, "===", sign("==", 1, 1), sign("=", 1, 3))
	wantWords(t, "= =", sign("=", 1, 1), sign("=", 1, 3))
	wantWords(t, "<==", sign("<=", 1, 1), sign("=", 1, 3))
	wantWords(t, "<<=", sign("<", 1, 1), sign("<=", 1, 2))
	wantWords(t, "!!=", sign("!", 1, 1), sign("!=", 1, 2))
	wantWords(t, "!==", sign("!=", 1, 1), sign("=", 1, 3))
	wantWords(t, "=<", sign("=", 1, 1), sign("<", 1, 2))
	wantWords(t, "=!", sign("=", 1, 1), sign("!", 1, 2))
	wantWords(t, "&&&&", sign("&&", 1, 1), sign("&&", 1, 3))
	wantWords(t, "||!", sign("||", 1, 1), sign("!", 1, 3))
	wantWords(t, "--", sign("-", 1, 1), sign("-", 1, 2))
	wantWords(t, "letx", name("letx", 1, 1))
	wantWords(t, "a1b2", name("a1b2", 1, 1))
	wantWords(t, "1 a", whole("1", 1, 1, 1), name("a", 1, 3))
}

// P1.1: what may be between words, and the places behind it.
func TestBetween(t *testing.T) {
	for _, text := range []string{"", " ", "\t", "\r", "\n", "#", "# \xff\x00 & 3a 07", "#\n#\n", " \t\r\n\n#x"} {
		wantWords(t, text)
	}
	wantWords(t, "\ta\r\n\n b", name("a", 1, 2), name("b", 3, 2))
	wantWords(t, "a#b\nc", name("a", 1, 1), name("c", 2, 1))
	wantWords(t, "#\ra\nb", name("b", 2, 1))
	wantWords(t, "\ra", name("a", 1, 2))
	wantWords(t, "##\n#a#\nb#c", name("b", 3, 1))
	wantWords(t, "#é\xff\n  7", whole("7", 7, 2, 3))
	for _, gap := range []string{" ", "\t", "\r", "\n", "#\n"} {
		if got, _, fault := Lex("a" + gap + "b"); fault != api.OK || len(got) != 2 {
			t.Errorf("%q does not part words: %v, error %d", gap, got, fault)
		}
	}
}

// P1.1: which bytes begin a word, alone and behind others.
func TestEachByte(t *testing.T) {
	for b := range 256 {
		text := string([]byte{byte(b)})
		switch {
		case strings.Contains(" \t\r\n#", text):
			wantWords(t, text)
		case 'a' <= b && b <= 'z':
			wantWords(t, text, name(text, 1, 1))
		case '0' <= b && b <= '9':
			wantWords(t, text, whole(text, int64(b-'0'), 1, 1))
		case strings.Contains(";(){}[]=<+-*/%!", text):
			wantWords(t, text, sign(text, 1, 1))
		default:
			wantError(t, text, api.ErrByte, 1, 1)
			wantError(t, "a 1\n=="+text, api.ErrByte, 2, 3)
			wantError(t, "x"+text, api.ErrByte, 1, 2)
			wantError(t, "3"+text, api.ErrByte, 1, 2)
		}
	}
}

// P1.1: bytes that begin no word.
func TestErrByte(t *testing.T) {
	wantError(t, "&", api.ErrByte, 1, 1)
	wantError(t, "|", api.ErrByte, 1, 1)
	wantError(t, "& &", api.ErrByte, 1, 1)
	wantError(t, "&&&", api.ErrByte, 1, 3)
	wantError(t, "|||", api.ErrByte, 1, 3)
	wantError(t, "&|", api.ErrByte, 1, 1)
	wantError(t, "|\n|", api.ErrByte, 1, 1)
	wantError(t, "&=", api.ErrByte, 1, 1)
	wantError(t, "\n\n  a_b", api.ErrByte, 3, 4)
	wantError(t, "Var", api.ErrByte, 1, 1)
	wantError(t, "aB", api.ErrByte, 1, 2)
	wantError(t, "3A", api.ErrByte, 1, 2)
	wantError(t, "x = 1.5", api.ErrByte, 1, 6)
	wantError(t, "a\x00", api.ErrByte, 1, 2)
	wantError(t, "a\vb", api.ErrByte, 1, 2)
	wantError(t, "é", api.ErrByte, 1, 1)
	wantError(t, "a\u00a0b", api.ErrByte, 1, 2)
	wantError(t, "٣", api.ErrByte, 1, 1)
	wantError(t, "#é\n \xc3", api.ErrByte, 2, 2)
	wantError(t, "\xff\xfe", api.ErrByte, 1, 1)
	wantError(t, "ok;\x80", api.ErrByte, 1, 4)
}

// P1.1: a name at its bound, and one past it.
func TestErrName(t *testing.T) {
	longest := strings.Repeat("a", api.MaxName)
	wantWords(t, longest, name(longest, 1, 1))
	wantWords(t, "z234567890123456", name("z234567890123456", 1, 1))
	wantError(t, longest+"a", api.ErrName, 1, 1)
	wantError(t, longest+"0", api.ErrName, 1, 1)
	wantError(t, "z2345678901234567", api.ErrName, 1, 1)
	wantError(t, "ab;\n  "+longest+"b;", api.ErrName, 2, 3)
	wantError(t, strings.Repeat("print", 4), api.ErrName, 1, 1)
	wantError(t, longest+"b&", api.ErrName, 1, 1)
	wantError(t, strings.Repeat("a", api.MaxText), api.ErrName, 1, 1)
	wantWords(t, longest+"="+longest, name(longest, 1, 1), sign("=", 1, 17), name(longest, 1, 18))
}

// P1.1: a number at its bounds, one past them, and what is none.
func TestErrNumber(t *testing.T) {
	for _, n := range []int64{0, 1, 9, 10, 100, 999999999, 1000000000, 2147483646, 2147483647} {
		text := strconv.FormatInt(n, 10)
		wantWords(t, text, whole(text, n, 1, 1))
		wantWords(t, " -"+text+";", sign("-", 1, 2), whole(text, n, 1, 3), sign(";", 1, 3+len(text)))
	}
	for _, text := range []string{
		"00", "01", "007", "0000000000", "02147483647", "2147483648", "2147483650", "3000000000", "9999999999",
		"4294967296", "4294967297", "10000000000", "9223372036854775807", "9223372036854775808",
		"18446744073709551616", "18446744073709551617", strings.Repeat("9", api.MaxText), strings.Repeat("0", api.MaxText),
		"0a", "0x1", "1e5", "3a", "3a3", "9z", "12var", "2147483647a", "1" + strings.Repeat("a", 100),
	} {
		wantError(t, text, api.ErrNumber, 1, 1)
	}
	wantError(t, "x\n= 7;\n y = 08;", api.ErrNumber, 3, 6)
	wantError(t, "5a&", api.ErrNumber, 1, 1)
	wantWords(t, "0;0", whole("0", 0, 1, 1), sign(";", 1, 2), whole("0", 0, 1, 3))
}

// P1.1: of several errors the first word's is told.
func TestFirstError(t *testing.T) {
	wantError(t, "a ? 07 abcdefghijklmnopq", api.ErrByte, 1, 3)
	wantError(t, "a 07 ? abcdefghijklmnopq", api.ErrNumber, 1, 3)
	wantError(t, "a abcdefghijklmnopq 07 ?", api.ErrName, 1, 3)
	wantError(t, "#?\n07\n?", api.ErrNumber, 2, 1)
}

// P1.1: a text at its bound, and one past it.
func TestErrLong(t *testing.T) {
	wantWords(t, strings.Repeat(" ", api.MaxText-1)+"a", name("a", 1, api.MaxText))
	wantWords(t, strings.Repeat("\n", api.MaxText-1)+"a", name("a", api.MaxText, 1))
	wantWords(t, "#"+strings.Repeat("\xff", api.MaxText-1))
	if got, _, fault := Lex(strings.Repeat(";", api.MaxText)); fault != api.OK || len(got) != api.MaxText || got[api.MaxText-1] != sign(";", 1, api.MaxText) {
		t.Error("signs up to the bound:", len(got), fault)
	}
	wantError(t, strings.Repeat(" ", api.MaxText)+"a", api.ErrLong, 0, 0)
	wantError(t, strings.Repeat("a\n", api.MaxText), api.ErrLong, 0, 0)
	wantError(t, "?"+strings.Repeat(" ", api.MaxText), api.ErrLong, 0, 0)
	wantError(t, strings.Repeat(" ", api.MaxText-1)+"&", api.ErrByte, 1, api.MaxText)
}

// P1.1: what a caller does to an answer changes no other one.
func TestAnswersAreNew(t *testing.T) {
	first, _, _ := Lex("var x = 1;")
	for i := range first {
		first[i] = api.Tok{}
	}
	_ = append(first[:0], sign("!", 9, 9))
	wantWords(t, "var x = 1;", keyword("var", 1, 1), name("x", 1, 5), sign("=", 1, 7), whole("1", 1, 1, 9), sign(";", 1, 10))
}

// P1.2: names.
func TestName(t *testing.T) {
	for _, s := range []string{"a", "z", "a0", "z9", "main", "vars", "va", "ab3d", "z234567890123456", strings.Repeat("q", api.MaxName)} {
		if !Name(s) {
			t.Errorf("%q is a name", s)
		}
	}
	for _, s := range []string{
		"", " ", "0", "0a", "9z", "A", "aB", "a b", " a", "a ", "a\n", "a#", "a_b", "a-", "é", "aé", "a\xff", "a\x00", "\xff", ";", "=",
		strings.Repeat("q", api.MaxName+1), strings.Repeat("q", api.MaxText+1), "`", "{", "a`", "a{", "a/", "a:",
	} {
		if Name(s) {
			t.Errorf("%.40q is no name", s)
		}
	}
	for _, s := range testKeywords {
		if Name(s) {
			t.Errorf("%q is a keyword, no name", s)
		}
	}
}

// P1.2: keywords.
func TestKeyword(t *testing.T) {
	for _, s := range testKeywords {
		if !Keyword(s) {
			t.Errorf("%q is a keyword", s)
		}
		for _, x := range []string{s + " ", " " + s, s + "s", s[1:], s[:len(s)-1], strings.ToUpper(s), s + "\x00"} {
			if Keyword(x) {
				t.Errorf("%q is no keyword", x)
			}
		}
	}
	for _, s := range []string{"", "main", "func", "for", "true", "7", "\xff", strings.Repeat("var", api.MaxText)} {
		if Keyword(s) {
			t.Errorf("%.40q is no keyword", s)
		}
	}
	for _, s := range testSigns {
		if Keyword(s) || Name(s) {
			t.Errorf("%q is a sign", s)
		}
	}
}

// P1.2: the place behind the last byte.
func TestEnd(t *testing.T) {
	for text, want := range map[string]api.Pos{
		"":                        {Line: 1, Col: 1},
		"a":                       {Line: 1, Col: 2},
		"ab ":                     {Line: 1, Col: 4},
		"\n":                      {Line: 2, Col: 1},
		"a\n":                     {Line: 2, Col: 1},
		"a\n\nbc":                 {Line: 3, Col: 3},
		"\r\n\r":                  {Line: 2, Col: 2},
		"\t":                      {Line: 1, Col: 2},
		"# x\n&":                  {Line: 2, Col: 2},
		"é":                       {Line: 1, Col: 3},
		"\xff\n\xff\xff\x00":      {Line: 2, Col: 4},
		"07 \u2028abcdefghijklmn": {Line: 1, Col: 21},
	} {
		if got := End(text); got != want {
			t.Errorf("%q: got %v, want %v", text, got, want)
		}
	}
	if got := End(strings.Repeat("a", api.MaxText)); got != (api.Pos{Line: 1, Col: api.MaxText + 1}) {
		t.Error("a text at the bound:", got)
	}
	if got := End(strings.Repeat("a\n", api.MaxText) + "b"); got != (api.Pos{Line: api.MaxText + 1, Col: 2}) {
		t.Error("a text above the bound:", got)
	}
}
