package plan

import (
	"slices"

	"disjoint/api"
)

// Valid reports whether a plan finds exactly the combinations for which the condition of a statement is True.
func Valid(s api.Schema, b api.Bound, p api.Plan) bool {
	if !Shape(s, b, p) {
		return false
	}
	where := Conjuncts(b.Statement.Where)
	v := validator{shape: shape{s, b}, where: where, used: make([]bool, len(where))}
	return v.examine(p) && !slices.Contains(v.used, false)
}

// validator compares a plan with the conjuncts of a condition.
type validator struct {
	shape
	where []api.Expr
	used  []bool // the conjuncts that the plan ensures
}

// examine reports whether a part of a plan uses only conjuncts of the condition, and notes which of them it ensures.
func (v *validator) examine(p api.Plan) bool {
	for _, a := range p.Args {
		if !v.examine(a) {
			return false
		}
	}
	switch p.Kind {
	case api.PlanFilter:
		return v.filter(p.Filter)
	case api.PlanLookup:
		for i, c := range p.Columns {
			if !v.given(v.variable(p, c), p.Keys[i], givesKey) {
				return false
			}
		}
	case api.PlanRange:
		c := v.variable(p, p.Columns[0])
		return (absent(p.Keys[0]) || v.given(c, p.Keys[0], givesLower)) && (absent(p.Keys[1]) || v.given(c, p.Keys[1], givesUpper))
	}
	return true
}

// variable returns the number of the variable of a column of a plan's source.
func (v *validator) variable(p api.Plan, column int) int {
	return v.firstVariable(p.Source) + column
}

// filter examines the conjuncts of a filter.
func (v *validator) filter(e api.Expr) bool {
	for _, c := range Conjuncts(e) {
		found := false
		for i, w := range v.where {
			if equal(c, w) {
				found, v.used[i] = true, true
			}
		}
		if !found {
			return false
		}
	}
	return true
}

// given reports whether some conjunct gives a key or a bound for a variable, and notes those that do so exactly.
func (v *validator) given(variable int, key api.Expr, gives func(op int) (given, exactly bool)) bool {
	found := false
	for i, w := range v.where {
		for _, c := range sides(w) {
			given, exactly := gives(c.op)
			if given && c.left.Op == api.OpColumn && c.left.Index == variable && equal(c.right, key) {
				found = true
				v.used[i] = v.used[i] || exactly
			}
		}
	}
	return found
}

// comparison is a comparison of two expressions.
type comparison struct {
	op          int
	left, right api.Expr
}

// sides returns a comparison, and the same one with its sides exchanged; none for any other condition.
func sides(e api.Expr) []comparison {
	if len(e.Args) != 2 {
		return nil
	}
	reversed := e.Op
	switch e.Op {
	case api.OpEq:
	case api.OpLt:
		reversed = api.OpGt
	case api.OpLe:
		reversed = api.OpGe
	case api.OpGt:
		reversed = api.OpLt
	case api.OpGe:
		reversed = api.OpLe
	default:
		return nil
	}
	return []comparison{{e.Op, e.Args[0], e.Args[1]}, {reversed, e.Args[1], e.Args[0]}}
}

func givesKey(op int) (given, exactly bool) { return op == api.OpEq, true }

func givesLower(op int) (given, exactly bool) {
	return op == api.OpGe || op == api.OpGt, op == api.OpGe
}

func givesUpper(op int) (given, exactly bool) {
	return op == api.OpLe || op == api.OpLt, op == api.OpLe
}
