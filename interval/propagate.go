package interval

import (
	"slices"

	"disjoint/api"
)

const maxRounds = 32

// Propagate narrows domains by constraints, and reports whether a solution is possible as far as is found.
func Propagate(l []api.Constraint, domains []Interval) ([]Interval, bool) {
	if slices.ContainsFunc(domains, Interval.empty) {
		return nil, false
	}
	narrowed := slices.Clone(domains)
	for range maxRounds {
		before := slices.Clone(narrowed)
		for _, c := range l {
			if !narrow(c, narrowed) {
				return nil, false
			}
		}
		if slices.Equal(before, narrowed) {
			break
		}
	}
	return narrowed, true
}

// narrow narrows domains by one constraint, and reports whether none of them becomes empty and the constraint does not fail.
func narrow(c api.Constraint, domains []Interval) bool {
	constant := true
	for k, x := range c.Linear.Coefs {
		if x.N == 0 {
			continue
		}
		constant = false
		others := api.Linear{Const: c.Linear.Const, Coefs: slices.Delete(slices.Clone(c.Linear.Coefs), k, k+1)}
		rest, _ := Range(others, domains)
		d := narrower(domains[x.Var], x.N, rest, c.Equal)
		if d.empty() {
			return false
		}
		domains[x.Var] = d
	}
	return !constant || c.Linear.Const == 0 || c.Linear.Const < 0 && !c.Equal
}

// narrower returns the integers v of d for which a * v + rest.Low is at most 0 and, for an equation, a * v + rest.High is at least 0.
func narrower(d Interval, a int64, rest Interval, equal bool) Interval {
	if a < 0 {
		// The condition for -v has a positive coefficient.
		m := narrower(Interval{-d.High, -d.Low}, -a, rest, equal)
		return Interval{-m.High, -m.Low}
	}
	d.High = min(d.High, floor(-rest.Low, a))
	if equal {
		d.Low = max(d.Low, -floor(rest.High, a))
	}
	return d
}

// floor returns the quotient, rounded toward negative infinity; b is positive.
func floor(a, b int64) int64 {
	q := a / b
	if a%b < 0 {
		q--
	}
	return q
}

// Range returns the interval from the least to the greatest value of a linear form, unless a domain is empty.
func Range(f api.Linear, domains []Interval) (Interval, bool) {
	r := Interval{f.Const, f.Const}
	for _, x := range f.Coefs {
		if x.N == 0 {
			continue
		}
		d := domains[x.Var]
		if d.empty() {
			return Interval{}, false
		}
		r.Low += min(x.N*d.Low, x.N*d.High)
		r.High += max(x.N*d.Low, x.N*d.High)
	}
	return r, true
}
