package ast

import (
	"slices"

	"disjoint/api"
)

// Equal reports whether two statements are equal, apart from Index.
func Equal(a, b api.Statement) bool {
	return a.Kind == b.Kind && a.Table == b.Table && a.Limit == b.Limit && a.Name == b.Name &&
		equalDefinitions(a.Create, b.Create) &&
		slices.EqualFunc(a.Values, b.Values, equalLists) &&
		slices.EqualFunc(a.Sets, b.Sets, equalAssignments) &&
		slices.EqualFunc(a.Items, b.Items, equalItems) &&
		slices.Equal(a.From, b.From) &&
		EqualExpr(a.Where, b.Where) &&
		equalLists(a.Group, b.Group) &&
		slices.Equal(a.Order, b.Order)
}

// EqualExpr reports whether two expressions are equal, apart from Index.
func EqualExpr(a, b api.Expr) bool {
	return a.Op == b.Op && a.Table == b.Table && a.Name == b.Name && a.Value == b.Value && equalLists(a.Args, b.Args)
}

func equalLists(a, b []api.Expr) bool { return slices.EqualFunc(a, b, EqualExpr) }

func equalAssignments(a, b api.Assignment) bool {
	return a.Column == b.Column && EqualExpr(a.Expr, b.Expr)
}

func equalItems(a, b api.Item) bool {
	return a.Aggregate == b.Aggregate && EqualExpr(a.Expr, b.Expr)
}

func equalDefinitions(a, b api.Definition) bool {
	return slices.Equal(a.Columns, b.Columns) &&
		slices.EqualFunc(a.Keys, b.Keys, slices.Equal[[]string]) &&
		slices.EqualFunc(a.Foreign, b.Foreign, equalReferences) &&
		equalLists(a.Checks, b.Checks)
}

func equalReferences(a, b api.Reference) bool {
	return a.Table == b.Table && slices.Equal(a.Columns, b.Columns) && slices.Equal(a.Target, b.Target)
}
