package formula

import (
	"slices"

	"disjoint/api"
	"disjoint/evaluate"
	"disjoint/linear"
)

// mode is one of the four translations of a condition.
type mode struct {
	negative bool // False or NotTrue, instead of True or NotFalse
	weak     bool // NotFalse or NotTrue: holds also where the condition is Unknown
}

// translator translates conditions over some variables.
type translator []api.Variable

// WhenTrue returns a formula that holds where a condition is True.
func WhenTrue(e api.Expr, l []api.Variable) (api.Formula, api.Errno) {
	return translator(l).condition(e, mode{})
}

// WhenFalse returns a formula that holds where a condition is False.
func WhenFalse(e api.Expr, l []api.Variable) (api.Formula, api.Errno) {
	return translator(l).condition(e, mode{negative: true})
}

// WhenNotFalse returns a formula that holds where a condition is not False.
func WhenNotFalse(e api.Expr, l []api.Variable) (api.Formula, api.Errno) {
	return translator(l).condition(e, mode{weak: true})
}

func constant(b bool) api.Formula {
	if b {
		return api.Formula{Kind: api.FormulaAnd}
	}
	return api.Formula{Kind: api.FormulaOr}
}

func isConstant(f api.Formula, b bool) bool {
	return f.Kind == constant(b).Kind && len(f.Args) == 0
}

func atom(a api.Atom) api.Formula { return api.Formula{Kind: api.FormulaAtom, Atom: a} }

// several returns the only element of a list, or the conjunction or disjunction of its elements.
func several(kind int, l []api.Formula) api.Formula {
	if len(l) == 1 {
		return l[0]
	}
	return api.Formula{Kind: kind, Args: l}
}

func (t translator) condition(e api.Expr, m mode) (api.Formula, api.Errno) {
	switch e.Op {
	case api.OpNot:
		m.negative = !m.negative
		return t.condition(e.Args[0], m)
	case api.OpAnd, api.OpOr:
		kind := api.FormulaAnd
		if (e.Op == api.OpOr) != m.negative {
			kind = api.FormulaOr
		}
		f := api.Formula{Kind: kind}
		for _, a := range e.Args {
			g, err := t.condition(a, m)
			if err != api.OK {
				return api.Formula{}, err
			}
			f.Args = append(f.Args, g)
		}
		return f, api.OK
	case api.OpIsNull:
		return isNull(e.Args[0], m), api.OK
	}
	if hasNull(e) {
		return constant(m.weak), api.OK
	}
	return t.comparison(e, m)
}

func hasNull(e api.Expr) bool {
	return e.Op == api.OpLiteral && e.Value.Kind == api.Null || slices.ContainsFunc(e.Args, hasNull)
}

// columns returns the numbers of the columns of expressions in ascending order.
func columns(l ...api.Expr) []int {
	var numbers []int
	for _, e := range l {
		if e.Op == api.OpColumn {
			numbers = append(numbers, e.Index)
		}
		numbers = append(numbers, columns(e.Args...)...)
	}
	slices.Sort(numbers)
	return slices.Compact(numbers)
}

func isNull(e api.Expr, m mode) api.Formula {
	if hasNull(e) {
		return constant(!m.negative)
	}
	kind, list := api.AtomNull, api.FormulaOr
	if m.negative {
		kind, list = api.AtomNotNull, api.FormulaAnd
	}
	return several(list, atoms(kind, columns(e)))
}

func atoms(kind int, variables []int) []api.Formula {
	var l []api.Formula
	for _, v := range variables {
		l = append(l, atom(api.Atom{Kind: kind, Var: v}))
	}
	return l
}

// comparison translates a comparison or LIKE without NULL.
func (t translator) comparison(e api.Expr, m mode) (api.Formula, api.Errno) {
	p, err := t.part(e, m.negative)
	if err != api.OK {
		return api.Formula{}, err
	}
	if isConstant(p, m.weak) {
		return p, api.OK
	}
	c := columns(e.Args...)
	kind, list := api.AtomNull, api.FormulaOr
	if !m.weak {
		kind, list = api.AtomNotNull, api.FormulaAnd
		used := Variables(p)
		c = slices.DeleteFunc(c, func(v int) bool { return slices.Contains(used, v) })
	}
	l := atoms(kind, c)
	if !isConstant(p, !m.weak) {
		l = append(l, p)
	}
	return several(list, l), api.OK
}

// part returns the positive or the negative part of a comparison or LIKE.
func (t translator) part(e api.Expr, negative bool) (api.Formula, api.Errno) {
	a, b := e.Args[0], e.Args[1]
	if e.Op == api.OpLike {
		return like(a, b.Value.Text, negative), api.OK
	}
	op := e.Op
	if negative {
		op = opposite(op)
	}
	switch {
	case isText(a) && isText(b):
		return constant(evaluate.Condition(api.Expr{Op: op, Args: []api.Expr{a, b}}, nil) == api.True), api.OK
	case isText(b):
		return textTest(a.Index, op, b.Value.Text), api.OK
	case isText(a):
		return textTest(b.Index, reversed(op), a.Value.Text), api.OK
	case t.isTextColumn(a) || t.isTextColumn(b):
		return textColumns(a.Index, b.Index, op), api.OK
	}
	return integers(a, b, op)
}

func isText(e api.Expr) bool { return e.Op == api.OpLiteral && e.Value.Kind == api.Text }

func (t translator) isTextColumn(e api.Expr) bool {
	return e.Op == api.OpColumn && t[e.Index].Type == api.Text
}

// opposite returns the comparison that is true where another one is false.
func opposite(op int) int {
	switch op {
	case api.OpEq:
		return api.OpNe
	case api.OpNe:
		return api.OpEq
	case api.OpLt:
		return api.OpGe
	case api.OpLe:
		return api.OpGt
	case api.OpGt:
		return api.OpLe
	}
	return api.OpLt
}

// reversed returns the comparison with its operands exchanged.
func reversed(op int) int {
	switch op {
	case api.OpLt:
		return api.OpGt
	case api.OpLe:
		return api.OpGe
	case api.OpGt:
		return api.OpLt
	case api.OpGe:
		return api.OpLe
	}
	return op
}

func like(e api.Expr, pattern string, negative bool) api.Formula {
	if e.Op == api.OpLiteral {
		return constant(evaluate.Like(e.Value.Text, pattern) != negative)
	}
	return atom(api.Atom{Kind: api.AtomText, Var: e.Index, Test: api.Test{Kind: api.TestLike, Negated: negative, Text: pattern}})
}

// textTest returns the comparison of a column with a text.
func textTest(v, op int, text string) api.Formula {
	test := api.Test{Text: text}
	switch op {
	case api.OpNe:
		test.Negated = true
	case api.OpLt:
		test.Kind = api.TestLess
	case api.OpLe:
		test.Kind = api.TestAtMost
	case api.OpGt:
		test.Kind, test.Negated = api.TestAtMost, true
	case api.OpGe:
		test.Kind, test.Negated = api.TestLess, true
	}
	return atom(api.Atom{Kind: api.AtomText, Var: v, Test: test})
}

// textColumns returns the comparison of two text columns by = or <>.
func textColumns(v, w, op int) api.Formula {
	if v == w {
		return constant(op == api.OpEq)
	}
	kind := api.AtomDifferent
	if op == api.OpEq {
		kind = api.AtomSame
	}
	return atom(api.Atom{Kind: kind, Var: min(v, w), Other: max(v, w)})
}

// integers returns the comparison of two integers.
func integers(a, b api.Expr, op int) (api.Formula, api.Errno) {
	t, err := difference(a, b)
	if err != api.OK {
		return api.Formula{}, err
	}
	if len(t.Parts) == 0 {
		zero := api.Expr{Op: api.OpLiteral, Value: api.Value{Kind: api.Integer}}
		n := zero
		n.Value.Int = t.Const
		return constant(evaluate.Condition(api.Expr{Op: op, Args: []api.Expr{n, zero}}, nil) == api.True), api.OK
	}
	kind := api.AtomAtMost
	switch op {
	case api.OpEq:
		kind = api.AtomZero
	case api.OpNe:
		kind = api.AtomNonzero
	case api.OpGt, api.OpGe:
		t, err = linear.Scale(t, -1)
	}
	if err == api.OK && (op == api.OpLt || op == api.OpGt) {
		t, err = linear.Add(t, api.Term{Const: 1})
	}
	if err != api.OK {
		return api.Formula{}, err
	}
	return atom(api.Atom{Kind: kind, Term: t}), api.OK
}

// difference returns the term of a minus the term of b.
func difference(a, b api.Expr) (api.Term, api.Errno) {
	t, err := linear.Of(a)
	if err != api.OK {
		return api.Term{}, err
	}
	u, err := linear.Of(b)
	if err != api.OK {
		return api.Term{}, err
	}
	if u, err = linear.Scale(u, -1); err != api.OK {
		return api.Term{}, err
	}
	return linear.Add(t, u)
}
