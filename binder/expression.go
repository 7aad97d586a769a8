package binder

import (
	"disjoint/api"
	"disjoint/ast"
	"disjoint/evaluate"
	"disjoint/linear"
)

// fits reports whether a type is another one or that of NULL.
func fits(typ, wanted int) bool { return typ == wanted || typ == api.Null }

// bind returns an expression with the numbers of its columns, and its type; find determines the number and the type of a column.
func bind(e api.Expr, find func(api.Expr) (int, int, api.Errno)) (api.Expr, int, api.Errno) {
	var types []int
	var args []api.Expr
	for _, a := range e.Args {
		b, typ, err := bind(a, find)
		if err != api.OK {
			return api.Expr{}, 0, err
		}
		args = append(args, b)
		types = append(types, typ)
	}
	e.Args = args
	typ, err := e.Value.Kind, api.OK
	switch {
	case e.Op == api.OpColumn:
		e.Index, typ, err = find(e)
	case e.Op != api.OpLiteral:
		typ, err = operator(e, types)
	}
	if err != api.OK {
		return api.Expr{}, 0, err
	}
	return e, typ, api.OK
}

// operator returns the type of an expression whose operands are bound and have these types.
func operator(e api.Expr, types []int) (int, api.Errno) {
	switch e.Op {
	case api.OpNeg, api.OpAdd, api.OpSub, api.OpMul, api.OpDiv, api.OpMod:
		return api.Integer, arithmetic(e, types)
	case api.OpLength:
		return api.Integer, expect(api.Text, types)
	case api.OpEq, api.OpNe, api.OpLt, api.OpLe, api.OpGt, api.OpGe:
		return api.Boolean, comparison(e, types)
	case api.OpLike:
		return api.Boolean, expect(api.Text, types[:1])
	case api.OpIsNull:
		if types[0] == api.Boolean {
			return 0, api.ErrType
		}
		return api.Boolean, api.OK
	}
	return api.Boolean, expect(api.Boolean, types)
}

// expect returns ErrType unless all types fit the wanted one.
func expect(wanted int, types []int) api.Errno {
	for _, t := range types {
		if !fits(t, wanted) {
			return api.ErrType
		}
	}
	return api.OK
}

func arithmetic(e api.Expr, types []int) api.Errno {
	if err := expect(api.Integer, types); err != api.OK {
		return err
	}
	switch e.Op {
	case api.OpMul:
		if hasColumns(e.Args[0]) && hasColumns(e.Args[1]) {
			return api.ErrUnsupported
		}
	case api.OpDiv, api.OpMod:
		v, err := evaluate.Constant(e.Args[1])
		if err != api.OK || v.Kind != api.Integer || v.Int < 1 || v.Int > api.MaxDivisor {
			return api.ErrUnsupported
		}
	}
	if hasNull(e) {
		return api.OK
	}
	_, err := linear.Of(e)
	return err
}

func hasColumns(e api.Expr) bool { return len(ast.Columns(e)) > 0 }

func hasNull(e api.Expr) bool {
	if e.Op == api.OpLiteral && e.Value.Kind == api.Null {
		return true
	}
	for _, a := range e.Args {
		if hasNull(a) {
			return true
		}
	}
	return false
}

func comparison(e api.Expr, types []int) api.Errno {
	if expect(api.Integer, types) != api.OK && expect(api.Text, types) != api.OK {
		return api.ErrType
	}
	if e.Op == api.OpEq || e.Op == api.OpNe {
		return api.OK
	}
	// The order of two texts that are both variable cannot be decided.
	if types[0] == api.Text && types[1] == api.Text && e.Args[0].Op == api.OpColumn && e.Args[1].Op == api.OpColumn {
		return api.ErrUnsupported
	}
	return api.OK
}
