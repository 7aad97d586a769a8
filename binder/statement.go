package binder

import (
	"slices"

	"disjoint/api"
	"disjoint/copies"
	"disjoint/evaluate"
	"disjoint/schema"
)

// Bind returns a statement whose names are resolved.
func Bind(s api.Schema, st api.Statement) (api.Bound, api.Errno) {
	b := api.Bound{Statement: copies.Statement(st)}
	err := api.OK
	switch st.Kind {
	case api.StmtCreate:
		err = api.ErrState
	case api.StmtInsert, api.StmtUpdate, api.StmtDelete:
		err = bindChange(s, &b)
	case api.StmtSelect:
		err = bindSelect(s, &b)
	}
	if err != api.OK {
		return api.Bound{}, err
	}
	return b, api.OK
}

// bindChange binds an INSERT, UPDATE or DELETE statement.
func bindChange(s api.Schema, b *api.Bound) api.Errno {
	st := &b.Statement
	number, ok := schema.Find(s, st.Table)
	if !ok {
		return api.ErrNotFound
	}
	table := s[number]
	l := scope{{table.Name, table}}
	b.Table, b.Tables, b.Variables = number, []int{number}, l.variables()
	if st.Kind == api.StmtInsert {
		return bindRows(table, b)
	}
	if err := bindSets(l, st.Sets); err != api.OK {
		return err
	}
	return bindCondition(l, &st.Where)
}

// bindRows binds the tuples of an INSERT statement.
func bindRows(table api.Table, b *api.Bound) api.Errno {
	for _, tuple := range b.Statement.Values {
		if len(tuple) != len(table.Columns) {
			return api.ErrInvalid
		}
		var r api.Row
		for i := range tuple {
			if err := bindValue(nil, &tuple[i], table.Columns[i].Type); err != api.OK {
				return err
			}
			v, _ := evaluate.Constant(tuple[i])
			r = append(r, v)
		}
		b.Rows = append(b.Rows, r)
	}
	return api.OK
}

// bindValue binds an expression whose type fits another one.
func bindValue(l scope, e *api.Expr, wanted int) api.Errno {
	bound, typ, err := bind(*e, l.find)
	if err != api.OK {
		return err
	}
	*e = bound
	if !fits(typ, wanted) {
		return api.ErrType
	}
	return api.OK
}

func bindSets(l scope, sets []api.Assignment) api.Errno {
	table := l[0].table
	for i := range sets {
		c, ok := schema.Column(table, sets[i].Column)
		if !ok {
			return api.ErrNotFound
		}
		if slices.ContainsFunc(sets[:i], func(a api.Assignment) bool { return a.Index == c }) {
			return api.ErrExists
		}
		sets[i].Index = c
		if err := bindValue(l, &sets[i].Expr, table.Columns[c].Type); err != api.OK {
			return err
		}
	}
	return api.OK
}

func bindCondition(l scope, e *api.Expr) api.Errno {
	if e.Op == api.OpNone {
		return api.OK
	}
	return bindValue(l, e, api.Boolean)
}

func bindSelect(s api.Schema, b *api.Bound) api.Errno {
	st := &b.Statement
	l, err := sources(s, b)
	if err != api.OK {
		return err
	}
	b.Variables = l.variables()
	for i := range st.Items {
		if err := bindItem(l, &st.Items[i]); err != api.OK {
			return err
		}
	}
	if err := bindCondition(l, &st.Where); err != api.OK {
		return err
	}
	for i := range st.Group {
		e, _, err := bind(st.Group[i], l.find)
		if err != api.OK {
			return err
		}
		st.Group[i] = e
	}
	if !groups(*st) {
		return api.ErrInvalid
	}
	width := len(st.Items)
	if width == 0 {
		width = len(b.Variables)
	}
	for _, o := range st.Order {
		if o.Item > width {
			return api.ErrInvalid
		}
	}
	return api.OK
}

func sources(s api.Schema, b *api.Bound) (scope, api.Errno) {
	if len(b.Statement.From) > api.MaxSources {
		return nil, api.ErrTooLarge
	}
	var l scope
	for _, f := range b.Statement.From {
		number, ok := schema.Find(s, f.Table)
		if !ok {
			return nil, api.ErrNotFound
		}
		name := f.Alias
		if name == "" {
			name = f.Table
		}
		if slices.ContainsFunc(l, func(x source) bool { return x.name == name }) {
			return nil, api.ErrExists
		}
		l = append(l, source{name, s[number]})
		b.Tables = append(b.Tables, number)
	}
	return l, api.OK
}

func bindItem(l scope, i *api.Item) api.Errno {
	if i.Aggregate == api.AggRows {
		return api.OK
	}
	e, typ, err := bind(i.Expr, l.find)
	if err != api.OK {
		return err
	}
	i.Expr = e
	if typ == api.Boolean || i.Aggregate == api.AggSum && !fits(typ, api.Integer) {
		return api.ErrType
	}
	return api.OK
}

// groups reports whether a statement has no groups, or only items that have a value for each group.
func groups(st api.Statement) bool {
	aggregate := func(i api.Item) bool { return i.Aggregate != api.AggNone }
	if len(st.Group) == 0 && !slices.ContainsFunc(st.Items, aggregate) {
		return true
	}
	for _, i := range st.Items {
		grouped := func(g api.Expr) bool { return i.Expr.Op == api.OpColumn && g.Index == i.Expr.Index }
		if !aggregate(i) && !slices.ContainsFunc(st.Group, grouped) {
			return false
		}
	}
	return len(st.Items) > 0
}
