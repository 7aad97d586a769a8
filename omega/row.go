package omega

import (
	"cmp"
	"slices"
	"strconv"

	"disjoint/api"
	"disjoint/exact"
)

// use is a multiple of an inequality of the proof, which has a number.
type use struct {
	id int
	n  exact.Int
}

// row is an inequality in the present coordinates: the sum of the products of a and the coordinates is at most b. It is the sum of uses.
type row struct {
	a    []exact.Int
	b    exact.Int
	uses []use
}

// equation is an equation in the present coordinates. It is the row with the uses atMost; the uses atLeast are the opposite inequality.
type equation struct {
	a       []exact.Int
	b       exact.Int
	atMost  []use
	atLeast []use
}

func (r row) clone() row {
	r.a = slices.Clone(r.a)
	r.uses = slices.Clone(r.uses)
	return r
}

func (e equation) clone() equation {
	e.a = slices.Clone(e.a)
	e.atMost, e.atLeast = slices.Clone(e.atMost), slices.Clone(e.atLeast)
	return e
}

// merge returns the uses of the sum of m times a and n times b; m and n are positive.
func merge(m exact.Int, a []use, n exact.Int, b []use) []use {
	var l []use
	for i, j := 0, 0; i < len(a) || j < len(b); {
		switch {
		case j == len(b) || i < len(a) && a[i].id < b[j].id:
			l = append(l, use{a[i].id, m.Mul(a[i].n)})
			i++
		case i == len(a) || b[j].id < a[i].id:
			l = append(l, use{b[j].id, n.Mul(b[j].n)})
			j++
		default:
			l = append(l, use{a[i].id, m.Mul(a[i].n).Add(n.Mul(b[j].n))})
			i++
			j++
		}
	}
	return l
}

// plus returns m times r plus n times s; m and n are positive.
func (r row) plus(m exact.Int, s row, n exact.Int) row {
	sum := row{a: make([]exact.Int, len(r.a)), b: m.Mul(r.b).Add(n.Mul(s.b)), uses: merge(m, r.uses, n, s.uses)}
	for i := range r.a {
		sum.a[i] = m.Mul(r.a[i]).Add(n.Mul(s.a[i]))
	}
	return sum
}

// content returns the greatest common divisor of the coefficients.
func content(a []exact.Int) exact.Int {
	g := exact.Int{}
	for _, c := range a {
		if !c.IsZero() {
			g = exact.GCD(g, c)
			if g.IsOne() {
				break
			}
		}
	}
	return g
}

// divide divides all coefficients by their common divisor g.
func divide(a []exact.Int, g exact.Int) {
	for i, c := range a {
		if !c.IsZero() {
			a[i] = c.Floor(g)
		}
	}
}

// sum returns the sum of the products of coefficients and values.
func sum(a, values []exact.Int) exact.Int {
	s := exact.Int{}
	for i, c := range a {
		if !c.IsZero() {
			s = s.Add(c.Mul(values[i]))
		}
	}
	return s
}

// direction returns a string that is the same for coefficients that are equal or opposite, and the sign of the first one that is not 0.
func direction(a []exact.Int) (string, int) {
	var k []byte
	sign := 0
	for i, c := range a {
		if c.IsZero() {
			continue
		}
		if sign == 0 {
			sign = c.Sign()
		}
		if sign < 0 {
			c = c.Neg()
		}
		k = strconv.AppendInt(k, int64(i), 36)
		k = append(k, ':')
		if n, ok := c.Int64(); ok {
			k = strconv.AppendInt(k, n, 36)
		} else {
			for _, d := range c.Big().Digits {
				k = strconv.AppendInt(k, int64(d), 36)
				k = append(k, '.')
			}
			k = append(k, byte('1'+c.Sign()))
		}
		k = append(k, ' ')
	}
	return string(k), sign
}

// prover collects the steps of a proof.
type prover struct {
	steps []api.Step
	count int // the number of inequalities that can be used
}

// derive adds a step, and returns the number of the inequality that it derives.
func (p *prover) derive(uses []use, divisor exact.Int) int {
	s := api.Step{Divisor: divisor.Big()}
	for _, u := range uses {
		if !u.n.IsZero() {
			s.Uses = append(s.Uses, api.Use{Index: u.id, N: u.n.Big()})
		}
	}
	p.steps = append(p.steps, s)
	p.count++
	return p.count - 1
}

// single returns uses of one inequality, which is derived from uses if necessary.
func (p *prover) single(uses []use, divisor exact.Int) []use {
	if len(uses) == 1 && uses[0].n.IsOne() && divisor.IsOne() {
		return uses
	}
	return []use{{p.derive(uses, divisor), exact.Of(1)}}
}

// contradiction returns the proof whose last step is the sum of uses.
func (p *prover) contradiction(uses []use) api.Proof {
	p.derive(uses, exact.Of(1))
	return api.Proof{Steps: p.steps}
}

// sorted returns uses in ascending order of their numbers, which differ.
func sorted(l []use) []use {
	slices.SortFunc(l, func(a, b use) int { return cmp.Compare(a.id, b.id) })
	return l
}
