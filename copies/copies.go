// Package copies copies values of the types of package api, such that a copy shares no memory with its original.
package copies

import (
	"slices"

	"disjoint/api"
)

// List returns what element returns for the elements of a list: copies of them, or something else.
func List[T, U any](l []T, element func(T) U) []U {
	if l == nil {
		return nil
	}
	r := make([]U, len(l))
	for i, x := range l {
		r[i] = element(x)
	}
	return r
}

// Lists returns copies of lists whose elements contain no lists.
func Lists[T any, L ~[]T](l []L) []L {
	return List(l, slices.Clone[L])
}

// Expr returns a copy of an expression.
func Expr(e api.Expr) api.Expr {
	e.Args = List(e.Args, Expr)
	return e
}

// Term returns a copy of a term.
func Term(t api.Term) api.Term {
	t.Parts = List(t.Parts, Part)
	return t
}

// Part returns a copy of a part of a term.
func Part(p api.Part) api.Part {
	p.Of = List(p.Of, Term)
	return p
}

// Statement returns a copy of a statement.
func Statement(s api.Statement) api.Statement {
	s.Create = api.Definition{
		Columns: slices.Clone(s.Create.Columns),
		Keys:    Lists(s.Create.Keys),
		Foreign: List(s.Create.Foreign, reference),
		Checks:  List(s.Create.Checks, Expr),
	}
	s.Values = List(s.Values, exprs)
	s.Sets = List(s.Sets, assignment)
	s.Items = List(s.Items, item)
	s.From = slices.Clone(s.From)
	s.Where = Expr(s.Where)
	s.Group = exprs(s.Group)
	s.Order = slices.Clone(s.Order)
	return s
}

func exprs(l []api.Expr) []api.Expr { return List(l, Expr) }

func reference(r api.Reference) api.Reference {
	r.Columns = slices.Clone(r.Columns)
	r.Target = slices.Clone(r.Target)
	return r
}

func assignment(a api.Assignment) api.Assignment {
	a.Expr = Expr(a.Expr)
	return a
}

func item(i api.Item) api.Item {
	i.Expr = Expr(i.Expr)
	return i
}

// Table returns a copy of a table of a schema.
func Table(t api.Table) api.Table {
	t.Columns = slices.Clone(t.Columns)
	t.Keys = Lists(t.Keys)
	t.Foreign = List(t.Foreign, foreign)
	t.Checks = exprs(t.Checks)
	return t
}

func foreign(f api.Foreign) api.Foreign {
	f.Columns = slices.Clone(f.Columns)
	return f
}

// Atom returns a copy of an atom.
func Atom(a api.Atom) api.Atom {
	a.Term = Term(a.Term)
	return a
}

// Formula returns a copy of a formula.
func Formula(f api.Formula) api.Formula {
	f.Atom = Atom(f.Atom)
	f.Args = List(f.Args, Formula)
	return f
}

// Clause returns a copy of a clause.
func Clause(c api.Clause) api.Clause {
	return api.Clause{
		Null:      slices.Clone(c.Null),
		NotNull:   slices.Clone(c.NotNull),
		Auxiliary: List(c.Auxiliary, auxiliary),
		Ints:      List(c.Ints, constraint),
		Tests:     slices.Clone(c.Tests),
		Same:      slices.Clone(c.Same),
		Different: slices.Clone(c.Different),
	}
}

func auxiliary(a api.Auxiliary) api.Auxiliary {
	a.Of = Linear(a.Of)
	return a
}

func constraint(c api.Constraint) api.Constraint {
	c.Linear = Linear(c.Linear)
	return c
}

// Linear returns a copy of a linear form.
func Linear(f api.Linear) api.Linear {
	f.Coefs = slices.Clone(f.Coefs)
	return f
}

// Predicate returns a copy of a predicate.
func Predicate(p api.Predicate) api.Predicate {
	p.Variables = slices.Clone(p.Variables)
	p.Clauses = List(p.Clauses, Clause)
	return p
}

// Accesses returns a copy of a list of accesses.
func Accesses(l []api.Access) []api.Access {
	return List(l, func(a api.Access) api.Access {
		a.Predicate = Predicate(a.Predicate)
		return a
	})
}

// Change returns a copy of a change.
func Change(c api.Change) api.Change {
	c.Old, c.New = slices.Clone(c.Old), slices.Clone(c.New)
	return c
}

// Event returns a copy of an event.
func Event(e api.Event) api.Event {
	e.Rows = Lists(e.Rows)
	e.Waits = List(e.Waits, func(w api.Wait) api.Wait {
		w.Row = slices.Clone(w.Row)
		return w
	})
	return e
}

// Plan returns a copy of a plan.
func Plan(p api.Plan) api.Plan {
	p.Columns = slices.Clone(p.Columns)
	p.Keys = exprs(p.Keys)
	p.Filter = Expr(p.Filter)
	p.Args = List(p.Args, Plan)
	return p
}
