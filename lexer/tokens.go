package lexer

import (
	"frustum/api"
	"frustum/format"
)

// maxInt is the largest value of an integer.
const maxInt = 1<<31 - 1

// IsKeyword reports whether s is a keyword.
func IsKeyword(s string) bool {
	switch s {
	case "shader", "vertex", "geometry", "fragment", "struct", "uniform", "texture", "buffer", "in", "out", "fn", "return", "main", "let", "if", "else", "loop", "break", "continue", "discard", "emit", "cut", "true", "false":
		return true
	}
	return IsTypeWord(s)
}

// IsTypeWord reports whether s is a keyword that is a type.
func IsTypeWord(s string) bool {
	switch s {
	case "fixed", "half", "int", "bool", "vec2", "vec3", "vec4":
		return true
	}
	return false
}

// IsSign reports whether s is a sign.
func IsSign(s string) bool {
	switch s {
	case "(", ")", "{", "}", ",", ";", ":", ".", "[", "]", "=", "+", "-", "*", "/", "%", "&", "|", "^", "!", "<", ">", "==", "!=", "<=", ">=", "<<", ">>", "->":
		return true
	}
	return false
}

// signLength returns the length of the sign at the beginning of a text, or 0 if there is none.
func signLength(text string) int {
	for length := min(2, len(text)); length > 0; length-- {
		if IsSign(text[:length]) {
			return length
		}
	}
	return 0
}

// numberLength returns the kind and the length of the number at the beginning of a text that begins with a digit.
func numberLength(text string) (api.TokenKind, int) {
	whole := spanOf(text, isDigit)
	// A point without a digit behind it is a sign of its own.
	if whole+1 < len(text) && text[whole] == '.' && isDigit(text[whole+1]) {
		return api.FixedToken, whole + 1 + spanOf(text[whole+1:], isDigit)
	}
	return api.IntToken, whole
}

// valueOf returns the value of a number, or the error that it is malformed or too large, in this order.
func valueOf(kind api.TokenKind, text string) (int, api.Errno) {
	if kind == api.FixedToken {
		return format.ParseFixed(text)
	}
	value, code := format.ParseInt(text)
	switch {
	case code != api.OK:
		return 0, code
	case value > maxInt:
		return 0, api.ErrRange
	}
	return value, api.OK
}

// spanOf returns the number of bytes at the beginning of a text that belong to a class.
func spanOf(text string, belongs func(byte) bool) int {
	length := 0
	for length < len(text) && belongs(text[length]) {
		length++
	}
	return length
}

// isInLine reports whether a line goes on behind a byte.
func isInLine(b byte) bool {
	return b != '\n'
}

// isWordPart reports whether a byte may be in a word. A digit may not begin one.
func isWordPart(b byte) bool {
	return 'a' <= b && b <= 'z' || 'A' <= b && b <= 'Z' || b == '_' || isDigit(b)
}

func isDigit(b byte) bool {
	return '0' <= b && b <= '9'
}
