package schema

import (
	"slices"

	"disjoint/api"
	"disjoint/copies"
	"disjoint/lexer"
)

// Build returns the schema of CREATE TABLE statements, or the position of the first invalid one.
func Build(l []api.Statement) (api.Schema, int, api.Errno) {
	s := api.Schema{}
	for i, st := range l {
		t, e := table(s, st)
		if e != api.OK {
			return nil, i, e
		}
		s = append(s, t)
	}
	return s, 0, api.OK
}

// table returns the next table of a schema. The checks are in the order of the errors that the document lists.
func table(s api.Schema, st api.Statement) (api.Table, api.Errno) {
	d := st.Create
	if st.Kind != api.StmtCreate {
		return api.Table{}, api.ErrInvalid
	}
	if len(s) >= api.MaxTables || tooMany(len(d.Columns), len(d.Keys), len(d.Foreign), len(d.Checks)) {
		return api.Table{}, api.ErrTooLarge
	}
	if !wellFormed(st.Table, d) {
		return api.Table{}, api.ErrInvalid
	}
	if _, exists := Find(s, st.Table); exists || repeats(d) {
		return api.Table{}, api.ErrExists
	}
	t := api.Table{Name: st.Table, Columns: slices.Clone(d.Columns), Checks: copies.List(d.Checks, copies.Expr)}
	for _, k := range d.Keys {
		columns, ok := numbers(t, k)
		if !ok {
			return api.Table{}, api.ErrNotFound
		}
		t.Keys = append(t.Keys, columns)
	}
	for _, r := range d.Foreign {
		f, ok := foreign(s, t, r)
		if !ok {
			return api.Table{}, api.ErrNotFound
		}
		t.Foreign = append(t.Foreign, f)
	}
	for _, f := range t.Foreign {
		target := target(s, t, f.Table)
		if !sameTypes(t, f.Columns, target, target.Keys[f.Key]) {
			return api.Table{}, api.ErrType
		}
	}
	return t, api.OK
}

func wellFormed(name string, d api.Definition) bool {
	if !lexer.IsName(name) || len(d.Columns) == 0 {
		return false
	}
	for _, c := range d.Columns {
		if !validColumn(c) {
			return false
		}
	}
	for _, k := range d.Keys {
		if len(k) == 0 {
			return false
		}
	}
	for _, r := range d.Foreign {
		if len(r.Columns) == 0 || len(r.Columns) != len(r.Target) {
			return false
		}
	}
	return true
}

// repeats reports whether something is named twice, or two keys are equal.
func repeats(d api.Definition) bool {
	var names []string
	for _, c := range d.Columns {
		names = append(names, c.Name)
	}
	lists := append([][]string{names}, d.Keys...)
	for _, r := range d.Foreign {
		lists = append(lists, r.Columns)
	}
	for _, l := range lists {
		for i, x := range l {
			if slices.Contains(l[:i], x) {
				return true
			}
		}
	}
	for i, k := range d.Keys {
		if slices.ContainsFunc(d.Keys[:i], func(l []string) bool { return slices.Equal(l, k) }) {
			return true
		}
	}
	return false
}

// numbers returns the numbers of columns of a table, and whether all of them exist.
func numbers(t api.Table, names []string) ([]int, bool) {
	var l []int
	for _, n := range names {
		c, ok := Column(t, n)
		if !ok {
			return nil, false
		}
		l = append(l, c)
	}
	return l, true
}

// target returns a table of s, or t, the next one.
func target(s api.Schema, t api.Table, number int) api.Table {
	if number < len(s) {
		return s[number]
	}
	return t
}

// foreign returns a foreign key of t, the next table of s, and whether what it names exists.
func foreign(s api.Schema, t api.Table, r api.Reference) (api.Foreign, bool) {
	columns, ok := numbers(t, r.Columns)
	if !ok {
		return api.Foreign{}, false
	}
	number := len(s)
	if r.Table != t.Name {
		if number, ok = Find(s, r.Table); !ok {
			return api.Foreign{}, false
		}
	}
	to := target(s, t, number)
	names, ok := numbers(to, r.Target)
	if !ok {
		return api.Foreign{}, false
	}
	key, ok := position(to.Keys, func(k []int) bool { return slices.Equal(k, names) })
	return api.Foreign{Columns: columns, Table: number, Key: key}, ok
}
