package ast

import (
	"disjoint/api"
	"disjoint/spelling"
)

// maxNumber is the greatest number in a text.
const maxNumber = 1 << 31

func isNumber(n int64) bool { return n >= 0 && n <= maxNumber }

// absent reports whether e is no expression at all.
func absent(e api.Expr) bool {
	return e.Op == api.OpNone && bare(e) && e.Name == "" && e.Table == "" && len(e.Args) == 0
}

// bare reports whether e has no value.
func bare(e api.Expr) bool { return e.Value == api.Value{} }

func wellFormed(e api.Expr) bool {
	switch e.Op {
	case api.OpLiteral:
		return e.Name == "" && e.Table == "" && len(e.Args) == 0 && literal(e.Value)
	case api.OpColumn:
		return bare(e) && len(e.Args) == 0 && spelling.IsName(e.Name) && (e.Table == "" || spelling.IsName(e.Table))
	}
	if !bare(e) || e.Name != "" || e.Table != "" || len(e.Args) == 0 || len(e.Args) != operands(e.Op) {
		return false
	}
	if e.Op == api.OpLike && (e.Args[1].Op != api.OpLiteral || e.Args[1].Value.Kind != api.Text) {
		return false
	}
	return every(e.Args, wellFormed)
}

// literal reports whether v can be the value of a literal.
func literal(v api.Value) bool {
	switch v.Kind {
	case api.Integer:
		return v.Text == "" && isNumber(v.Int)
	case api.Text:
		return v.Int == 0 && spelling.IsText(v.Text)
	}
	return v == api.Value{}
}

// operands returns the number of operands of an operator, 0 for what is none.
func operands(op int) int {
	switch op {
	case api.OpNeg, api.OpLength, api.OpIsNull, api.OpNot:
		return 1
	case api.OpAdd, api.OpSub, api.OpMul, api.OpDiv, api.OpMod, api.OpEq, api.OpNe, api.OpLt, api.OpLe, api.OpGt, api.OpGe, api.OpLike, api.OpAnd, api.OpOr:
		return 2
	}
	return 0
}

// every reports whether a condition is true for all elements of a list.
func every[T any](l []T, condition func(T) bool) bool {
	for _, x := range l {
		if !condition(x) {
			return false
		}
	}
	return true
}

func maybe(e api.Expr) bool { return absent(e) || wellFormed(e) }

// wellFormedStatement examines the fields that the Kind uses, and removes them; nothing must remain.
func wellFormedStatement(s api.Statement) bool {
	ok := false
	switch s.Kind {
	case api.StmtCreate:
		ok = spelling.IsName(s.Table) && definition(s.Create)
		s.Table, s.Create = "", api.Definition{}
	case api.StmtInsert:
		ok = spelling.IsName(s.Table) && len(s.Values) > 0 && every(s.Values, tuple)
		s.Table, s.Values = "", nil
	case api.StmtUpdate:
		ok = spelling.IsName(s.Table) && len(s.Sets) > 0 && every(s.Sets, assignment) && maybe(s.Where)
		s.Table, s.Sets, s.Where = "", nil, api.Expr{}
	case api.StmtDelete:
		ok = spelling.IsName(s.Table) && maybe(s.Where)
		s.Table, s.Where = "", api.Expr{}
	case api.StmtSelect:
		ok = query(s)
		s.Items, s.From, s.Where, s.Group, s.Order, s.Limit = nil, nil, api.Expr{}, nil, nil, 0
	case api.StmtBegin, api.StmtCommit, api.StmtRollback:
		ok = true
	case api.StmtSavepoint, api.StmtRollbackTo, api.StmtRelease:
		ok = spelling.IsName(s.Name)
		s.Name = ""
	}
	return ok && empty(s)
}

// empty reports whether a statement has nothing but a Kind.
func empty(s api.Statement) bool {
	d := s.Create
	return s.Table == "" && len(d.Columns)+len(d.Keys)+len(d.Foreign)+len(d.Checks) == 0 &&
		len(s.Values)+len(s.Sets)+len(s.Items)+len(s.From)+len(s.Group)+len(s.Order) == 0 &&
		absent(s.Where) && s.Limit == 0 && s.Name == ""
}

func tuple(l []api.Expr) bool { return len(l) > 0 && every(l, wellFormed) }

func assignment(a api.Assignment) bool { return spelling.IsName(a.Column) && wellFormed(a.Expr) }

func definition(d api.Definition) bool {
	return len(d.Columns)+len(d.Keys)+len(d.Foreign)+len(d.Checks) > 0 &&
		every(d.Columns, column) && every(d.Keys, names) && every(d.Foreign, reference) && every(d.Checks, wellFormed)
}

func column(c api.Column) bool {
	if !spelling.IsName(c.Name) {
		return false
	}
	switch c.Type {
	case api.Integer:
		return bound(c.Low) && bound(c.High) && c.Max == 0
	case api.Text:
		return isNumber(int64(c.Max)) && c.Low == 0 && c.High == 0
	}
	return false
}

func bound(n int64) bool { return n >= -maxNumber && n <= maxNumber }

func names(l []string) bool { return len(l) > 0 && every(l, spelling.IsName) }

func reference(r api.Reference) bool {
	return names(r.Columns) && names(r.Target) && spelling.IsName(r.Table)
}

func query(s api.Statement) bool {
	return every(s.Items, item) && len(s.From) > 0 && every(s.From, source) && maybe(s.Where) &&
		every(s.Group, group) && every(s.Order, order) && isNumber(int64(s.Limit))
}

func item(i api.Item) bool {
	if i.Aggregate == api.AggRows {
		return absent(i.Expr)
	}
	return i.Aggregate >= api.AggNone && i.Aggregate <= api.AggMax && wellFormed(i.Expr)
}

func source(f api.Source) bool {
	return spelling.IsName(f.Table) && (f.Alias == "" || spelling.IsName(f.Alias))
}

func group(e api.Expr) bool { return e.Op == api.OpColumn && wellFormed(e) }

func order(o api.Order) bool { return o.Item >= 1 && isNumber(int64(o.Item)) }
