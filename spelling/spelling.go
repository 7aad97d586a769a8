// Package spelling knows the keywords of SQL, and how names and texts are spelt. The lexer and the syntax trees share it.
package spelling

import (
	"strings"

	"disjoint/api"
)

// Upper returns s with a to z replaced by A to Z.
func Upper(s string) string {
	return strings.Map(func(c rune) rune {
		if c >= 'a' && c <= 'z' {
			return c - 'a' + 'A'
		}
		return c
	}, s)
}

// Lower returns s with A to Z replaced by a to z.
func Lower(s string) string {
	return strings.Map(func(c rune) rune {
		if c >= 'A' && c <= 'Z' {
			return c - 'A' + 'a'
		}
		return c
	}, s)
}

// IsKeyword reports whether s is a keyword in upper case.
func IsKeyword(s string) bool {
	switch s {
	case "AND", "AS", "ASC", "BEGIN", "BETWEEN", "BY", "CHECK", "COMMIT", "COUNT", "CREATE", "DELETE", "DESC",
		"FOREIGN", "FROM", "GROUP", "IN", "INSERT", "INTEGER", "INTO", "IS", "JOIN", "KEY", "LENGTH", "LIKE",
		"LIMIT", "MAX", "MIN", "NOT", "NULL", "ON", "OR", "ORDER", "PRIMARY", "REFERENCES", "RELEASE", "ROLLBACK",
		"SAVEPOINT", "SELECT", "SET", "SUM", "TABLE", "TEXT", "TO", "UNIQUE", "UPDATE", "VALUES", "WHERE":
		return true
	}
	return false
}

// IsName reports whether s is an identifier in lower case.
func IsName(s string) bool {
	if s == "" || len(s) > api.MaxName || s[0] < 'a' || s[0] > 'z' {
		return false
	}
	for i := range len(s) {
		if c := s[i]; !(c >= 'a' && c <= 'z' || c >= '0' && c <= '9' || c == '_') {
			return false
		}
	}
	return !IsKeyword(Upper(s))
}

// IsPrintable reports whether c is from space to tilde.
func IsPrintable(c byte) bool { return c >= ' ' && c <= '~' }

// IsText reports whether s is a text value.
func IsText(s string) bool {
	if len(s) > api.MaxText {
		return false
	}
	for i := range len(s) {
		if !IsPrintable(s[i]) {
			return false
		}
	}
	return true
}

// Quote returns the literal of a text.
func Quote(s string) string {
	return "'" + strings.ReplaceAll(s, "'", "''") + "'"
}
