package lex

import (
	"iter"
	"math"
	"strings"

	"warp/api"
)

// reader is a text that is read, as far as the place that it embeds.
type reader struct {
	api.Pos
	text string
	at   int
}

// begin makes the reader of a text at its first byte.
func begin(text string) *reader {
	return &reader{Pos: api.Pos{Line: 1, Col: 1}, text: text}
}

// off takes off the bytes that are such, up to the first that is none. It goes byte by byte, as places count bytes and a text need be no UTF-8.
func (r *reader) off(such func(byte) bool) string {
	from := r.at
	for r.at < len(r.text) && such(r.text[r.at]) {
		r.Col++
		if r.text[r.at] == '\n' {
			r.Line, r.Col = r.Line+1, 1
		}
		r.at++
	}
	return r.text[from:r.at]
}

// between takes off what stands ahead of the next word.
func (r *reader) between() {
	remark := false
	r.off(func(b byte) bool {
		remark = b == '#' || remark && b != '\n'
		return remark || blank(b)
	})
}

// sign takes off a sign, the longest that there is; no text, if none is there.
func (r *reader) sign(signs map[string]api.TokKind) string {
	for n := min(2, len(r.text)-r.at); n > 0; n-- {
		if signs[r.text[r.at:r.at+n]] == api.TokSign {
			end := r.at + n
			return r.off(func(byte) bool { return r.at < end })
		}
	}
	return ""
}

// word takes off the word that is next. Of one that has an error only its place counts.
func (r *reader) word(keywords, signs map[string]api.TokKind) (api.Tok, api.Errno) {
	t := api.Tok{Pos: r.Pos}
	switch b := r.text[r.at]; {
	case letter(b):
		t.Kind, t.Text = api.TokName, r.off(alphanumeric)
		if keywords[t.Text] == api.TokWord {
			t.Kind = api.TokWord
		}
		if len(t.Text) > api.MaxName {
			return t, api.ErrName
		}
	case digit(b):
		// Letters go along: digits with a letter behind them are one fault, not two words.
		t.Kind, t.Text = api.TokNumber, r.off(alphanumeric)
		n, is := number(t.Text)
		if !is {
			return t, api.ErrNumber
		}
		t.Num = n
	default:
		t.Kind, t.Text = api.TokSign, r.sign(signs)
		if t.Text == "" {
			return t, api.ErrByte
		}
	}
	// A word outlives its text, and must not hold it.
	t.Text = strings.Clone(t.Text)
	return t, api.OK
}

// words goes over a text's words, each with its error. It may be left at any time, and must be left at the first error.
func words(text string) iter.Seq2[api.Tok, api.Errno] {
	return func(yield func(api.Tok, api.Errno) bool) {
		keywords, signs := keywordTable(), signTable()
		r := begin(text)
		r.between()
		for r.at < len(text) {
			if !yield(r.word(keywords, signs)) {
				return
			}
			r.between()
		}
	}
}

// number tells what digits tell; false, if they are no number.
func number(s string) (int64, bool) {
	const longest = len("2147483647")
	if len(s) > longest || len(s) > 1 && s[0] == '0' {
		return 0, false
	}
	n := int64(0)
	for i := range len(s) {
		if !digit(s[i]) {
			return 0, false
		}
		n = 10*n + int64(s[i]-'0')
	}
	if n > math.MaxInt32 {
		return 0, false
	}
	return n, true
}
