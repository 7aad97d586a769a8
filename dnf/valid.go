package dnf

import (
	"slices"

	"disjoint/api"
	"disjoint/value"
)

const (
	maxBound    = int64(1)<<60 + 1
	integerSize = int64(1) << 31
)

// Valid reports whether c is a clause over variables.
func Valid(c api.Clause, l []api.Variable) bool {
	if !ascending(c.Null, len(l)) || !ascending(c.NotNull, len(l)) {
		return false
	}
	v := validator{variables: l, notNull: c.NotNull}
	for _, a := range c.Auxiliary {
		if !v.define(a) {
			return false
		}
	}
	for _, x := range c.Ints {
		if _, ok := v.bound(x.Linear); !ok {
			return false
		}
	}
	for _, t := range c.Tests {
		if t.Kind < api.TestEqual || t.Kind > api.TestAtMost || !value.Valid(value.Text(t.Text)) || !v.usable(t.Var, api.Text) {
			return false
		}
	}
	for _, p := range slices.Concat(c.Same, c.Different) {
		if !v.usable(p[0], api.Text) || !v.usable(p[1], api.Text) || p[0] >= p[1] {
			return false
		}
	}
	return true
}

// ascending reports whether l is a strictly ascending list of numbers from 0 to n - 1.
func ascending(l []int, n int) bool {
	for i, v := range l {
		if v < 0 || v >= n || i > 0 && l[i-1] >= v {
			return false
		}
	}
	return true
}

// validator examines the parts of a clause.
type validator struct {
	variables []api.Variable
	notNull   []int
	bounds    []int64 // of the auxiliary variables so far
}

// usable reports whether a variable has a type and is not NULL.
func (v *validator) usable(x, typ int) bool {
	return slices.Contains(v.notNull, x) && v.variables[x].Type == typ
}

// define adds the bound of the next auxiliary variable, and reports whether its definition is valid.
func (v *validator) define(a api.Auxiliary) bool {
	if a.By == 0 {
		v.bounds = append(v.bounds, api.MaxText)
		return a.Of.Const == 0 && len(a.Of.Coefs) == 0 && v.usable(a.Text, api.Text)
	}
	b, ok := v.bound(a.Of)
	if !ok || a.By < 1 || a.By > api.MaxDivisor || a.Text != 0 {
		return false
	}
	v.bounds = append(v.bounds, b/a.By+1)
	return true
}

// bound returns the bound of a linear form, and whether the form is valid.
func (v *validator) bound(f api.Linear) (int64, bool) {
	if !within(f.Const, api.MaxConst+1) {
		return 0, false
	}
	sum := absolute(f.Const)
	for i, c := range f.Coefs {
		b, ok := v.size(c.Var)
		if !ok || c.N == 0 || !within(c.N, api.MaxCoef) || i > 0 && f.Coefs[i-1].Var >= c.Var {
			return 0, false
		}
		// The comparison avoids a product that does not fit into 64 bits.
		if b > (maxBound-sum)/absolute(c.N) {
			return 0, false
		}
		sum += absolute(c.N) * b
	}
	return sum, true
}

func within(n, limit int64) bool { return -limit <= n && n <= limit }

func absolute(n int64) int64 {
	if n < 0 {
		return -n
	}
	return n
}

// size returns the bound of a variable of a linear form, and whether it can be used.
func (v *validator) size(x int) (int64, bool) {
	if i := x - len(v.variables); i >= 0 {
		if i >= len(v.bounds) {
			return 0, false
		}
		return v.bounds[i], true
	}
	return integerSize, v.usable(x, api.Integer)
}
