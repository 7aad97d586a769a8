package linear

import "disjoint/api"

// Of returns the term of an integer expression.
func Of(e api.Expr) (api.Term, api.Errno) {
	if e.Op == api.OpLength && len(e.Args) == 1 && isText(e.Args[0]) {
		// The only operand that is not an integer expression.
		return api.Term{Const: int64(len(e.Args[0].Value.Text))}, api.OK
	}
	var terms []api.Term
	for _, a := range e.Args {
		t, err := Of(a)
		if err != api.OK {
			return api.Term{}, err
		}
		terms = append(terms, t)
	}
	switch len(terms) {
	case 0:
		return leaf(e)
	case 1:
		return unary(e, terms[0])
	case 2:
		return binary(e.Op, terms[0], terms[1])
	}
	return api.Term{}, api.ErrType
}

// isText reports whether e is a literal text; with operands it would be none.
func isText(e api.Expr) bool {
	return e.Op == api.OpLiteral && e.Value.Kind == api.Text && len(e.Args) == 0
}

func leaf(e api.Expr) (api.Term, api.Errno) {
	switch {
	case e.Op == api.OpLiteral && e.Value.Kind == api.Integer:
		return checked(api.Term{Const: e.Value.Int})
	case e.Op == api.OpColumn && e.Index >= 0:
		return variable(api.PartColumn, e.Index), api.OK
	}
	return api.Term{}, api.ErrType
}

func variable(kind, v int) api.Term {
	return api.Term{Parts: []api.Part{{Coef: 1, Kind: kind, Var: v}}}
}

func unary(e api.Expr, t api.Term) (api.Term, api.Errno) {
	switch {
	case e.Op == api.OpNeg:
		return Scale(t, -1)
	case e.Op == api.OpLength && e.Args[0].Op == api.OpColumn:
		return variable(api.PartLength, e.Args[0].Index), api.OK
	}
	return api.Term{}, api.ErrType
}

func binary(op int, a, b api.Term) (api.Term, api.Errno) {
	switch op {
	case api.OpAdd:
		return Add(a, b)
	case api.OpSub:
		return plusMultiple(a, b, -1)
	case api.OpMul:
		return product(a, b)
	case api.OpDiv, api.OpMod:
		if len(b.Parts) > 0 || b.Const < 1 || b.Const > api.MaxDivisor {
			return api.Term{}, api.ErrUnsupported
		}
		q, e := Div(a, b.Const)
		if e != api.OK || op == api.OpDiv {
			return q, e
		}
		return plusMultiple(a, q, -b.Const)
	}
	return api.Term{}, api.ErrType
}

// plusMultiple returns a + n * b.
func plusMultiple(a, b api.Term, n int64) (api.Term, api.Errno) {
	m, e := Scale(b, n)
	if e != api.OK {
		return api.Term{}, e
	}
	return Add(a, m)
}

func product(a, b api.Term) (api.Term, api.Errno) {
	switch {
	case len(a.Parts) == 0:
		return Scale(b, a.Const)
	case len(b.Parts) == 0:
		return Scale(a, b.Const)
	}
	return api.Term{}, api.ErrUnsupported
}
