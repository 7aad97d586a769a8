package plan

import (
	"slices"

	"disjoint/api"
	"disjoint/conjunct"
)

// Valid reports whether a plan finds exactly the combinations for which the condition of a statement is True.
func Valid(s api.Schema, b api.Bound, p api.Plan) bool {
	if !Shape(s, b, p) {
		return false
	}
	where := Conjuncts(b.Statement.Where)
	v := validator{shape: shape{s, b}, where: where, used: make([]bool, len(where))}
	return v.examine(p) && !slices.Contains(v.used, false)
}

// validator compares a plan with the conjuncts of a condition.
type validator struct {
	shape
	where []api.Expr
	used  []bool // the conjuncts that the plan ensures
}

// examine reports whether a part of a plan uses only conjuncts of the condition, and notes which of them it ensures.
func (v *validator) examine(p api.Plan) bool {
	for _, a := range p.Args {
		if !v.examine(a) {
			return false
		}
	}
	switch p.Kind {
	case api.PlanFilter:
		return v.filter(p.Filter)
	case api.PlanLookup:
		for i, c := range p.Columns {
			if !v.given(v.variable(p, c), p.Keys[i], conjunct.Key) {
				return false
			}
		}
	case api.PlanRange:
		c := v.variable(p, p.Columns[0])
		return (absent(p.Keys[0]) || v.given(c, p.Keys[0], conjunct.Lower)) && (absent(p.Keys[1]) || v.given(c, p.Keys[1], conjunct.Upper))
	}
	return true
}

// variable returns the number of the variable of a column of a plan's source.
func (v *validator) variable(p api.Plan, column int) int {
	return conjunct.FirstVariable(v.s, v.b, p.Source) + column
}

// filter examines the conjuncts of a filter.
func (v *validator) filter(e api.Expr) bool {
	for _, c := range Conjuncts(e) {
		found := false
		for i, w := range v.where {
			if equal(c, w) {
				found, v.used[i] = true, true
			}
		}
		if !found {
			return false
		}
	}
	return true
}

// given reports whether some conjunct gives a key or a bound for a variable, and notes those that do so exactly.
func (v *validator) given(variable int, key api.Expr, role conjunct.Role) bool {
	found := false
	for i, w := range v.where {
		l, exactly := conjunct.Given(w, variable, role)
		if slices.ContainsFunc(l, func(e api.Expr) bool { return equal(e, key) }) {
			found = true
			v.used[i] = v.used[i] || exactly
		}
	}
	return found
}
