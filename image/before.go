package image

import (
	"slices"

	"disjoint/api"
	"disjoint/formula"
	"disjoint/linear"
)

// substitution replaces columns by the expressions that are assigned to them.
type substitution []api.Assignment

// Before returns a formula that holds where another one holds after assignments.
func Before(f api.Formula, sets []api.Assignment) (api.Formula, api.Errno) {
	return substitution(sets).formula(f)
}

func constant(b bool) api.Formula {
	if b {
		return api.Formula{Kind: api.FormulaAnd}
	}
	return api.Formula{Kind: api.FormulaOr}
}

func atom(a api.Atom) api.Formula { return api.Formula{Kind: api.FormulaAtom, Atom: a} }

func (s substitution) formula(f api.Formula) (api.Formula, api.Errno) {
	if f.Kind == api.FormulaAtom {
		return s.atom(f.Atom)
	}
	g := api.Formula{Kind: f.Kind}
	for _, a := range f.Args {
		b, err := s.formula(a)
		if err != api.OK {
			return api.Formula{}, err
		}
		g.Args = append(g.Args, b)
	}
	return g, api.OK
}

func (s substitution) atom(a api.Atom) (api.Formula, api.Errno) {
	switch a.Kind {
	case api.AtomNull:
		return isNull(s.value(a.Var)), api.OK
	case api.AtomNotNull:
		return isNotNull(s.value(a.Var)), api.OK
	case api.AtomText:
		return test(s.value(a.Var), a.Test), api.OK
	case api.AtomSame, api.AtomDifferent:
		return compare(s.value(a.Var), s.value(a.Other), a.Kind), api.OK
	}
	return s.integers(a)
}

// value returns the expression that is assigned to a column, or the column itself.
func (s substitution) value(column int) api.Expr {
	for _, a := range s {
		if a.Index == column {
			return a.Expr
		}
	}
	return api.Expr{Op: api.OpColumn, Index: column}
}

// isNever reports whether an expression is NULL in all rows, because it contains NULL.
func isNever(e api.Expr) bool {
	return e.Op == api.OpLiteral && e.Value.Kind == api.Null || slices.ContainsFunc(e.Args, isNever)
}

// columns returns the columns of an expression in ascending order.
func columns(e api.Expr) []int {
	var l []int
	if e.Op == api.OpColumn {
		l = append(l, e.Index)
	}
	for _, a := range e.Args {
		l = append(l, columns(a)...)
	}
	slices.Sort(l)
	return slices.Compact(l)
}

func atoms(kind int, variables []int) []api.Formula {
	var l []api.Formula
	for _, v := range variables {
		l = append(l, atom(api.Atom{Kind: kind, Var: v}))
	}
	return l
}

func isNull(e api.Expr) api.Formula {
	if isNever(e) {
		return constant(true)
	}
	return api.Formula{Kind: api.FormulaOr, Args: atoms(api.AtomNull, columns(e))}
}

func isNotNull(e api.Expr) api.Formula {
	if isNever(e) {
		return constant(false)
	}
	return api.Formula{Kind: api.FormulaAnd, Args: atoms(api.AtomNotNull, columns(e))}
}

// test returns the formula that a text expression passes a test. Such an expression is NULL, a column or a literal.
func test(e api.Expr, t api.Test) api.Formula {
	f := atom(api.Atom{Kind: api.AtomText, Test: t})
	switch {
	case isNever(e):
		return constant(false)
	case e.Op == api.OpColumn:
		f.Atom.Var = e.Index
		return f
	}
	return constant(formula.Holds(f, api.Row{e.Value}))
}

// compare returns the formula that two text expressions are equal or different.
func compare(d, e api.Expr, kind int) api.Formula {
	same := kind == api.AtomSame
	switch {
	case isNever(d) || isNever(e):
		return constant(false)
	case e.Op != api.OpColumn:
		return test(d, api.Test{Kind: api.TestEqual, Negated: !same, Text: e.Value.Text})
	case d.Op != api.OpColumn:
		return compare(e, d, kind)
	case d.Index != e.Index:
		return atom(api.Atom{Kind: kind, Var: min(d.Index, e.Index), Other: max(d.Index, e.Index)})
	case same:
		return isNotNull(d)
	}
	return constant(false)
}

// integers returns the formula of an atom with a term.
func (s substitution) integers(a api.Atom) (api.Formula, api.Errno) {
	// The atom does not hold if a column of the term is NULL, also if it cancels out after the substitution.
	var needed []int
	for _, v := range linear.Variables(a.Term) {
		e := s.value(v)
		if isNever(e) {
			return constant(false), api.OK
		}
		needed = append(needed, columns(e)...)
	}
	t, err := s.term(a.Term)
	if err != api.OK {
		return api.Formula{}, err
	}
	slices.Sort(needed)
	return api.Formula{Args: append(atoms(api.AtomNotNull, slices.Compact(needed)), atom(api.Atom{Kind: a.Kind, Term: t}))}, api.OK
}

// term returns the term that results from a substitution.
func (s substitution) term(t api.Term) (api.Term, api.Errno) {
	sum := api.Term{Const: t.Const}
	for _, p := range t.Parts {
		q, err := s.part(p)
		if err == api.OK {
			q, err = linear.Scale(q, p.Coef)
		}
		if err == api.OK {
			sum, err = linear.Add(sum, q)
		}
		if err != api.OK {
			return api.Term{}, err
		}
	}
	return sum, api.OK
}

// part returns the term for a part with the coefficient 1.
func (s substitution) part(p api.Part) (api.Term, api.Errno) {
	switch p.Kind {
	case api.PartColumn:
		return linear.Of(s.value(p.Var))
	case api.PartLength:
		return linear.Of(api.Expr{Op: api.OpLength, Args: []api.Expr{s.value(p.Var)}})
	}
	t, err := s.term(p.Of[0])
	if err != api.OK {
		return api.Term{}, err
	}
	return linear.Div(t, p.By)
}
