// Package lex is layer 1: see shared/doc/01-lex.md.
package lex

import "warp/api"

// Lex: P1.1.
func Lex(text string) ([]api.Tok, api.Pos, api.Errno) {
	if len(text) > api.MaxText {
		return nil, api.Pos{}, api.ErrLong
	}
	var list []api.Tok
	var place api.Pos
	fault := api.OK
read:
	for word, flaw := range words(text) {
		switch flaw {
		case api.OK:
			list = append(list, word)
		default:
			list, place, fault = nil, word.Pos, flaw
			break read
		}
	}
	return list, place, fault
}

// Name: P1.2.
func Name(s string) bool {
	if s == "" || len(s) > api.MaxName || !letter(s[0]) {
		return false
	}
	return begin(s).off(alphanumeric) == s && !Keyword(s)
}

// Keyword: P1.2.
func Keyword(s string) bool { return keywordTable()[s] == api.TokWord }

// End: P1.2.
func End(text string) api.Pos {
	r := begin(text)
	r.off(func(byte) bool { return true })
	return r.Pos
}
