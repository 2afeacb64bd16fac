package lex

import "warp/api"

// table maps each of the keys to the same value.
func table[K comparable, V any](value V, keys ...K) map[K]V {
	m := make(map[K]V, len(keys))
	for _, k := range keys {
		m[k] = value
	}
	return m
}

// keywordTable holds the letters that are no names.
func keywordTable() map[string]api.TokKind {
	return table(api.TokWord,
		"var", "array", "mutex", "cond", "chan", "thread", "let", "if", "else", "while", "lock", "unlock",
		"wait", "signal", "all", "send", "recv", "spawn", "join", "print")
}

// signTable holds signs of one byte and of two; neither & nor | is one alone.
func signTable() map[string]api.TokKind {
	return table(api.TokSign,
		";", "(", ")", "{", "}", "[", "]", "=", "==", "!=", "<", "<=", "+", "-", "*", "/", "%", "&&", "||", "!")
}

func letter(b byte) bool { return 'a' <= b && b <= 'z' }

func digit(b byte) bool { return '0' <= b && b <= '9' }

func alphanumeric(b byte) bool { return letter(b) || digit(b) }

func blank(b byte) bool { return b == ' ' || b == '\t' || b == '\r' || b == '\n' }
