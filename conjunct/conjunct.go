// Package conjunct finds out what the conjuncts of a condition say about the columns of its sources. The layers plan and planner share it.
package conjunct

import (
	"slices"

	"disjoint/api"
)

// FirstVariable returns the number of the first variable of a source of a statement.
func FirstVariable(s api.Schema, b api.Bound, source int) int {
	n := 0
	for _, t := range b.Tables[:source] {
		n += len(s[t].Columns)
	}
	return n
}

// Columns returns the number of columns of a source.
func Columns(s api.Schema, b api.Bound, source int) int {
	return len(s[b.Tables[source]].Columns)
}

// Over reports whether all variables of an expression are columns of some sources.
func Over(s api.Schema, b api.Bound, e api.Expr, sources []int) bool {
	belongs := func(i int) bool {
		n := e.Index - FirstVariable(s, b, i)
		return n >= 0 && n < Columns(s, b, i)
	}
	if e.Op == api.OpColumn && !slices.ContainsFunc(sources, belongs) {
		return false
	}
	return !slices.ContainsFunc(e.Args, func(a api.Expr) bool { return !Over(s, b, a, sources) })
}

// Comparison is a comparison of two expressions.
type Comparison struct {
	Op          int
	Left, Right api.Expr
}

// Sides returns a comparison, and the same one with its sides exchanged; none for any other condition.
func Sides(e api.Expr) []Comparison {
	if len(e.Args) != 2 {
		return nil
	}
	reversed := e.Op
	switch e.Op {
	case api.OpEq:
	case api.OpLt:
		reversed = api.OpGt
	case api.OpLe:
		reversed = api.OpGe
	case api.OpGt:
		reversed = api.OpLt
	case api.OpGe:
		reversed = api.OpLe
	default:
		return nil
	}
	return []Comparison{{e.Op, e.Args[0], e.Args[1]}, {reversed, e.Args[1], e.Args[0]}}
}

// Role tells whether a comparison of a column with an expression makes that a key or a bound of the column, and whether exactly the rows with this key, or within this bound, satisfy the comparison.
type Role func(op int) (given, exactly bool)

// Key is the role of the value of a column.
func Key(op int) (given, exactly bool) { return op == api.OpEq, true }

// Lower is the role of a lower bound.
func Lower(op int) (given, exactly bool) {
	return op == api.OpGe || op == api.OpGt, op == api.OpGe
}

// Upper is the role of an upper bound.
func Upper(op int) (given, exactly bool) {
	return op == api.OpLe || op == api.OpLt, op == api.OpLe
}

// Given returns the expressions that a conjunct gives in some role for a variable, and whether exactly.
func Given(e api.Expr, variable int, role Role) ([]api.Expr, bool) {
	var l []api.Expr
	exact := false
	for _, c := range Sides(e) {
		given, exactly := role(c.Op)
		if given && c.Left.Op == api.OpColumn && c.Left.Index == variable {
			l = append(l, c.Right)
			exact = exactly
		}
	}
	return l, exact
}
