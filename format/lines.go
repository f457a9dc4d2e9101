package format

import (
	"strings"

	"frustum/api"
)

// Fields returns the fields of a line, which are separated by single spaces.
func Fields(line string) ([]string, api.Errno) {
	// The empty line has no fields, but Split would return an empty one.
	if line == "" {
		return nil, api.OK
	}
	fields := strings.Split(line, " ")
	for _, field := range fields {
		if !isField(field) {
			return nil, api.ErrSyntax
		}
	}
	return fields, api.OK
}

// JoinFields returns the line with these fields.
func JoinFields(fields ...string) string {
	return strings.Join(fields, " ")
}

// SplitLines returns the lines of a text without their line feeds.
func SplitLines(text string) ([]string, api.Errno) {
	if len(text) > api.MaxText {
		return nil, api.ErrTooLong
	}
	if text == "" {
		return nil, api.OK
	}
	body, ended := strings.CutSuffix(text, "\n")
	if !ended {
		return nil, api.ErrSyntax
	}
	return strings.Split(body, "\n"), api.OK
}

// IsName reports whether s is a name: a letter or "_", followed by letters, digits or "_", up to MaxName bytes in all.
func IsName(s string) bool {
	return s != "" && len(s) <= api.MaxName && isNameStart(s[0]) && every(s, isNamePart)
}

func isField(s string) bool {
	return s != "" && every(s, isVisible)
}

// isVisible reports whether a byte is a printable ASCII character other than the space.
func isVisible(b byte) bool {
	return '!' <= b && b <= '~'
}

func isNameStart(b byte) bool {
	return 'a' <= b && b <= 'z' || 'A' <= b && b <= 'Z' || b == '_'
}

func isNamePart(b byte) bool {
	return isNameStart(b) || isDigit(b)
}
