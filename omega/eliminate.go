package omega

import (
	"slices"

	"disjoint/api"
	"disjoint/exact"
)

// simplify eliminates equations and coordinates as far as this is exact and cheap. It returns a proof and false if there is a contradiction.
func (d *node) simplify() (api.Proof, bool) {
	for {
		if p, ok := d.eliminateEquations(); !ok {
			return p, false
		}
		if p, ok := d.normalize(); !ok {
			return p, false
		}
		if len(d.equations) == 0 && !d.eliminateCoordinate() {
			return api.Proof{}, true
		}
	}
}

// eliminateEquations fixes a coordinate for each equation.
func (d *node) eliminateEquations() (api.Proof, bool) {
	for len(d.equations) > 0 {
		e := d.equations[0]
		d.equations = d.equations[1:]
		g := content(e.a)
		if g.IsZero() {
			switch e.b.Sign() {
			case -1:
				return d.contradiction(e.atMost), false
			case 1:
				return d.contradiction(e.atLeast), false
			}
			continue
		}
		if !g.IsOne() {
			e.atMost, e.atLeast = d.single(e.atMost, g), d.single(e.atLeast, g)
			q, rest := e.b.DivFloor(g)
			if !rest.IsZero() {
				return d.contradiction(merge(exact.Of(1), e.atMost, exact.Of(1), e.atLeast)), false
			}
			divide(e.a, g)
			e.b = q
		}
		d.fix(e)
	}
	return api.Proof{}, true
}

// fix changes the coordinates such that an equation, whose coefficients have no common divisor, determines one of them, and fixes it.
func (d *node) fix(e equation) {
	// The equation takes part in the changes of the coordinates.
	d.equations = append(d.equations, e)
	j := d.isolate(e.a)
	d.equations = d.equations[:len(d.equations)-1]
	high, low := d.single(e.atMost, exact.Of(1)), d.single(e.atLeast, exact.Of(1))
	value := e.b
	if e.a[j].Sign() < 0 {
		value = value.Neg()
		high, low = low, high
	}
	d.fixed[j] = value
	d.deactivate(j)
	for i, r := range d.rows {
		d.rows[i].b = r.b.Sub(r.a[j].Mul(value))
		d.rows[i].uses = without(r.uses, r.a[j], high, low)
		d.rows[i].a[j] = exact.Int{}
	}
	for i, q := range d.equations {
		d.equations[i].b = q.b.Sub(q.a[j].Mul(value))
		d.equations[i].atMost = without(q.atMost, q.a[j], high, low)
		d.equations[i].atLeast = without(q.atLeast, q.a[j].Neg(), high, low)
		d.equations[i].a[j] = exact.Int{}
	}
}

// without returns the uses of an inequality in which a coordinate with the coefficient c is replaced by its value; high and low are the uses of its bounds.
func without(uses []use, c exact.Int, high, low []use) []use {
	switch c.Sign() {
	case 1:
		return merge(exact.Of(1), uses, c, low)
	case -1:
		return merge(exact.Of(1), uses, c.Neg(), high)
	}
	return uses
}

// isolate changes the coordinates such that only one of the active ones has a coefficient in a, and returns it.
func (d *node) isolate(a []exact.Int) int {
	for {
		least := -1
		others := false
		for _, j := range d.active {
			if a[j].IsZero() {
				continue
			}
			if least >= 0 {
				others = true
			}
			if least < 0 || a[j].Abs().Cmp(a[least].Abs()) < 0 {
				least = j
			}
		}
		if !others {
			return least
		}
		for _, j := range d.active {
			if j != least && !a[j].IsZero() {
				q := a[j].Round(a[least].Abs())
				if a[least].Sign() > 0 {
					q = q.Neg()
				}
				d.addColumn(j, least, q)
			}
		}
	}
}

// normalize divides rows by common divisors, removes those that follow from others, and finds opposite ones, which are equations or contradictions.
func (d *node) normalize() (api.Proof, bool) {
	first := map[string]int{} // the position in pairs
	var pairs [][2]*row       // the best rows of a direction and the opposite one
	for i := range d.rows {
		r := &d.rows[i]
		g := content(r.a)
		if g.IsZero() {
			if r.b.Sign() < 0 {
				return d.contradiction(r.uses), false
			}
			continue
		}
		if !g.IsOne() {
			divide(r.a, g)
			r.b = r.b.Floor(g)
			r.uses = d.single(r.uses, g)
		}
		key, sign := direction(r.a)
		k, known := first[key]
		if !known {
			k = len(pairs)
			first[key] = k
			pairs = append(pairs, [2]*row{})
		}
		side := &pairs[k][(sign+1)/2]
		if *side == nil || r.b.Cmp((*side).b) < 0 {
			*side = r
		}
	}
	var rest []row
	for _, p := range pairs {
		if p[0] != nil && p[1] != nil {
			switch p[0].b.Add(p[1].b).Sign() {
			case -1:
				return d.contradiction(merge(exact.Of(1), p[0].uses, exact.Of(1), p[1].uses)), false
			case 0:
				d.equations = append(d.equations, equation{p[0].a, p[0].b, p[0].uses, p[1].uses})
				continue
			}
		}
		for _, r := range p {
			if r != nil {
				rest = append(rest, *r)
			}
		}
	}
	d.rows = rest
	return api.Proof{}, true
}

// eliminateCoordinate eliminates an active coordinate, if there is one for which this is exact and does not lead to more rows, and reports whether there was one.
func (d *node) eliminateCoordinate() bool {
	for _, j := range d.active {
		var low, high []row
		unitLow, unitHigh := true, true
		for _, r := range d.rows {
			switch r.a[j].Sign() {
			case -1:
				low = append(low, r)
				unitLow = unitLow && r.a[j].Neg().IsOne()
			case 1:
				high = append(high, r)
				unitHigh = unitHigh && r.a[j].IsOne()
			}
		}
		if !unitLow && !unitHigh && len(low) > 0 && len(high) > 0 || len(low)*len(high) > len(low)+len(high) {
			continue
		}
		d.trail = append(d.trail, putOff{j: j, rows: slices.Concat(low, high)})
		d.rows = slices.DeleteFunc(d.rows, func(r row) bool { return !r.a[j].IsZero() })
		for _, l := range low {
			for _, h := range high {
				d.rows = append(d.rows, l.plus(h.a[j], h, l.a[j].Neg()))
			}
		}
		d.deactivate(j)
		return true
	}
	return false
}
