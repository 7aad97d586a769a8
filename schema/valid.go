package schema

import (
	"slices"

	"disjoint/api"
	"disjoint/lexer"
)

// Valid reports whether s is a schema.
func Valid(s api.Schema) bool {
	if len(s) > api.MaxTables {
		return false
	}
	for i, t := range s {
		if n, _ := Find(s, t.Name); n != i || !validTable(s, t, i) {
			return false
		}
	}
	return true
}

func validTable(s api.Schema, t api.Table, number int) bool {
	if !lexer.IsName(t.Name) || len(t.Columns) < 1 || tooMany(len(t.Columns), len(t.Keys), len(t.Foreign), len(t.Checks)) {
		return false
	}
	for i, c := range t.Columns {
		if n, _ := Column(t, c.Name); n != i || !validColumn(c) {
			return false
		}
	}
	for i, k := range t.Keys {
		if !validColumns(t, k) || slices.ContainsFunc(t.Keys[:i], func(l []int) bool { return slices.Equal(l, k) }) {
			return false
		}
	}
	for _, f := range t.Foreign {
		if !validColumns(t, f.Columns) || f.Table < 0 || f.Table > number || !validReference(t, s[f.Table], f) {
			return false
		}
	}
	return true
}

// tooMany reports whether a table cannot have so many elements.
func tooMany(columns, keys, foreign, checks int) bool {
	return columns > api.MaxColumns || max(keys, foreign, checks) > api.MaxKeys
}

func validColumn(c api.Column) bool {
	if !lexer.IsName(c.Name) {
		return false
	}
	switch c.Type {
	case api.Integer:
		return api.MinInteger <= c.Low && c.Low <= c.High && c.High <= api.MaxInteger && c.Max == 0
	case api.Text:
		return c.Max >= 1 && c.Max <= api.MaxText && c.Low == 0 && c.High == 0
	}
	return false
}

// validColumns reports whether l is a list of columns of t without repetitions.
func validColumns(t api.Table, l []int) bool {
	for i, c := range l {
		if c < 0 || c >= len(t.Columns) || slices.Contains(l[:i], c) {
			return false
		}
	}
	return len(l) > 0
}

func validReference(t, target api.Table, f api.Foreign) bool {
	return f.Key >= 0 && f.Key < len(target.Keys) && len(target.Keys[f.Key]) == len(f.Columns) &&
		validColumns(target, target.Keys[f.Key]) && sameTypes(t, f.Columns, target, target.Keys[f.Key])
}

func sameTypes(t api.Table, columns []int, target api.Table, key []int) bool {
	for i, c := range columns {
		if t.Columns[c].Type != target.Columns[key[i]].Type {
			return false
		}
	}
	return true
}
