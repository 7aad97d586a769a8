// Package copies copies values of the types of package api, such that a copy shares no memory with its original.
package copies

import (
	"slices"

	"disjoint/api"
)

// List returns what element returns for the elements of a list: copies of them, or something else.
func List[T, U any](l []T, element func(T) U) []U {
	if l == nil {
		return nil
	}
	r := make([]U, len(l))
	for i, x := range l {
		r[i] = element(x)
	}
	return r
}

// Lists returns copies of lists whose elements contain no lists.
func Lists[T any, L ~[]T](l []L) []L {
	return List(l, slices.Clone[L])
}

// Expr returns a copy of an expression.
func Expr(e api.Expr) api.Expr {
	e.Args = List(e.Args, Expr)
	return e
}

// Term returns a copy of a term.
func Term(t api.Term) api.Term {
	t.Parts = List(t.Parts, Part)
	return t
}

// Part returns a copy of a part of a term.
func Part(p api.Part) api.Part {
	p.Of = List(p.Of, Term)
	return p
}
