package linear

import "disjoint/api"

const (
	maxBound     = int64(1) << 60
	columnBound  = int64(1) << 31
	leastDivisor = 2
)

func absolute(n int64) int64 {
	if n < 0 {
		return -n
	}
	return n
}

func within(n, limit int64) bool { return -limit <= n && n <= limit }

// small reports whether a term whose parts are normal, apart from their coefficients, is small enough.
func small(t api.Term) bool {
	_, ok := bound(t)
	return ok
}

// bound returns the bound of a term, and whether the term is small enough.
func bound(t api.Term) (int64, bool) {
	if !within(t.Const, api.MaxConst) {
		return 0, false
	}
	sum := absolute(t.Const)
	for _, p := range t.Parts {
		if !within(p.Coef, api.MaxCoef) {
			return 0, false
		}
		b, ok := partBound(p)
		coef := absolute(p.Coef)
		// The comparison avoids a product that does not fit into 64 bits.
		if !ok || coef > 0 && b > (maxBound-sum)/coef {
			return 0, false
		}
		sum += coef * b
	}
	return sum, true
}

func partBound(p api.Part) (int64, bool) {
	switch p.Kind {
	case api.PartColumn:
		return columnBound, true
	case api.PartLength:
		return api.MaxText, true
	}
	b, ok := bound(p.Of[0])
	return b/p.By + 1, ok
}

// Valid reports whether a term is normal.
func Valid(t api.Term) bool {
	for i, p := range t.Parts {
		if !validPart(p) || i > 0 && compareParts(t.Parts[i-1], p) >= 0 {
			return false
		}
	}
	return small(t)
}

func validPart(p api.Part) bool {
	if p.Coef == 0 {
		return false
	}
	switch p.Kind {
	case api.PartColumn, api.PartLength:
		return p.Var >= 0 && p.By == 0 && len(p.Of) == 0
	case api.PartDiv:
		return p.Var == 0 && p.By >= leastDivisor && p.By <= api.MaxDivisor && len(p.Of) == 1 && len(p.Of[0].Parts) > 0 && Valid(p.Of[0])
	}
	return false
}
