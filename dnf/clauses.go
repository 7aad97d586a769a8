package dnf

import (
	"cmp"
	"slices"

	"disjoint/api"
	"disjoint/formula"
)

// literal is an element of a conjunction: the atom from which it comes, or, if this is AtomNonzero, the half of it in which its term is positive or negative.
type literal struct {
	api.Atom
	positive bool
}

// Clauses returns clauses of which at least one holds exactly where a formula holds.
func Clauses(f api.Formula, l []api.Variable) ([]api.Clause, api.Errno) {
	if count(f, l) > api.MaxClauses {
		return nil, api.ErrTooLarge
	}
	var clauses []api.Clause
	for _, conjunction := range expand(f, l) {
		b := builder{variables: len(l)}
		for _, x := range conjunction {
			b.add(x)
		}
		if c, ok := b.clause(); ok {
			clauses = append(clauses, c)
		}
	}
	return clauses, api.OK
}

// decided reports whether an atom is one that a column which is never NULL makes true or false, and which one.
func decided(a api.Atom, l []api.Variable) (holds, ok bool) {
	if a.Kind != api.AtomNull && a.Kind != api.AtomNotNull || l[a.Var].Nullable {
		return false, false
	}
	return a.Kind == api.AtomNotNull, true
}

// count returns the count of a simplified formula, or some number greater than MaxClauses if it is greater.
func count(f api.Formula, l []api.Variable) int {
	if f.Kind == api.FormulaAtom {
		if holds, ok := decided(f.Atom, l); ok {
			if holds {
				return 1
			}
			return 0
		}
		if f.Atom.Kind == api.AtomNonzero {
			return 2
		}
		return 1
	}
	n := 0
	if f.Kind == api.FormulaAnd {
		n = 1
	}
	for _, g := range f.Args {
		if f.Kind == api.FormulaAnd {
			n *= count(g, l)
		} else {
			n += count(g, l)
		}
		n = min(n, api.MaxClauses+1)
	}
	return n
}

// expand returns the conjunctions of a formula. It never expands a part of a conjunction that has none, however many conjunctions other parts have.
func expand(f api.Formula, l []api.Variable) [][]literal {
	switch {
	case count(f, l) == 0:
		return nil
	case f.Kind == api.FormulaAtom:
		return expandAtom(f.Atom, l)
	case f.Kind == api.FormulaOr:
		var all [][]literal
		for _, g := range f.Args {
			all = append(all, expand(g, l)...)
		}
		return all
	}
	all := [][]literal{nil}
	for _, g := range f.Args {
		var product [][]literal
		right := expand(g, l)
		for _, a := range all {
			for _, b := range right {
				product = append(product, slices.Concat(a, b))
			}
		}
		all = product
	}
	return all
}

func expandAtom(a api.Atom, l []api.Variable) [][]literal {
	if _, ok := decided(a, l); ok {
		return [][]literal{nil}
	}
	if a.Kind == api.AtomNonzero {
		return [][]literal{{{Atom: a}}, {{Atom: a, positive: true}}}
	}
	return [][]literal{{{Atom: a}}}
}

// builder forms a clause from literals.
type builder struct {
	variables int
	c         api.Clause
}

func (b *builder) add(x literal) {
	if x.Kind == api.AtomNull {
		b.c.Null = append(b.c.Null, x.Var)
		return
	}
	b.c.NotNull = append(b.c.NotNull, formula.Variables(api.Formula{Kind: api.FormulaAtom, Atom: x.Atom})...)
	switch x.Kind {
	case api.AtomAtMost, api.AtomZero:
		b.constrain(b.linear(x.Term), x.Kind == api.AtomZero)
	case api.AtomNonzero:
		f := b.linear(x.Term)
		if x.positive {
			f.Const = -f.Const
			for i := range f.Coefs {
				f.Coefs[i].N = -f.Coefs[i].N
			}
		}
		f.Const++
		b.constrain(f, false)
	case api.AtomText:
		test := x.Test
		test.Var = x.Var
		b.c.Tests = appendNew(b.c.Tests, test)
	case api.AtomSame:
		b.c.Same = appendNew(b.c.Same, [2]int{x.Var, x.Other})
	case api.AtomDifferent:
		b.c.Different = appendNew(b.c.Different, [2]int{x.Var, x.Other})
	}
}

// appendNew appends an element, unless the list contains it.
func appendNew[T comparable](l []T, x T) []T {
	if slices.Contains(l, x) {
		return l
	}
	return append(l, x)
}

func (b *builder) constrain(f api.Linear, equal bool) {
	known := func(x api.Constraint) bool { return x.Equal == equal && equalForms(x.Linear, f) }
	if !slices.ContainsFunc(b.c.Ints, known) {
		b.c.Ints = append(b.c.Ints, api.Constraint{Linear: f, Equal: equal})
	}
}

func equalForms(a, b api.Linear) bool {
	return a.Const == b.Const && slices.Equal(a.Coefs, b.Coefs)
}

// linear returns the linear form of a term, with auxiliary variables for its lengths and quotients.
func (b *builder) linear(t api.Term) api.Linear {
	f := api.Linear{Const: t.Const}
	for _, p := range t.Parts {
		v := p.Var
		switch p.Kind {
		case api.PartLength:
			v = b.auxiliary(api.Auxiliary{Text: p.Var})
		case api.PartDiv:
			v = b.auxiliary(api.Auxiliary{Of: b.linear(p.Of[0]), By: p.By})
		}
		f.Coefs = append(f.Coefs, api.Coef{Var: v, N: p.Coef})
	}
	slices.SortFunc(f.Coefs, func(x, y api.Coef) int { return cmp.Compare(x.Var, y.Var) })
	return f
}

// auxiliary returns the number of the auxiliary variable with a definition.
func (b *builder) auxiliary(a api.Auxiliary) int {
	i := slices.IndexFunc(b.c.Auxiliary, func(x api.Auxiliary) bool {
		return x.By == a.By && x.Text == a.Text && equalForms(x.Of, a.Of)
	})
	if i < 0 {
		i = len(b.c.Auxiliary)
		b.c.Auxiliary = append(b.c.Auxiliary, a)
	}
	return b.variables + i
}

// clause returns the clause, unless some variable would have to be NULL and not NULL.
func (b *builder) clause() (api.Clause, bool) {
	b.c.Null = union(b.c.Null, nil)
	b.c.NotNull = union(b.c.NotNull, nil)
	for _, v := range b.c.Null {
		if slices.Contains(b.c.NotNull, v) {
			return api.Clause{}, false
		}
	}
	return b.c, true
}
