package omega

import (
	"slices"

	"disjoint/api"
	"disjoint/exact"
)

// maxChain is the greatest number of values of a coordinate that are examined one by one; if there are more, they are split into halves.
const maxChain = 6

// solve returns values of the variables that are a solution, or a proof that there is none.
func (d *node) solve() ([]exact.Int, api.Proof, bool) {
	for {
		if p, ok := d.simplify(); !ok {
			return nil, p, false
		}
		if len(d.rows) == 0 {
			return d.solution(nil), api.Proof{}, true
		}
		t := newTableau(d.rows, d.active)
		if multiples, ok := t.feasible(); !ok {
			return nil, d.contradiction(d.combine(multiples)), false
		}
		if values, ok := d.near(t.vertex(), t.den); ok {
			return d.solution(values), api.Proof{}, true
		}
		widths, changed := d.tighten(t)
		if changed {
			continue
		}
		if !t.full() {
			d.echelon()
		}
		d.reduceLattice(widths)
		c := d.thinnest()
		if c.center != nil {
			return d.solution(c.center), api.Proof{}, true
		}
		if c.low.Cmp(c.high) > 0 {
			return nil, d.contradiction(merge(exact.Of(1), c.atMost, exact.Of(1), c.atLeast)), false
		}
		if last := c.low.Add(exact.Of(maxChain)); c.high.Cmp(last) >= 0 {
			return d.halve(c)
		}
		return d.enumerate(c)
	}
}

// combine returns the uses of the sum of multiples of the rows.
func (d *node) combine(multiples []exact.Int) []use {
	totals := map[int]exact.Int{}
	for i, m := range multiples {
		if m.IsZero() {
			continue
		}
		for _, u := range d.rows[i].uses {
			totals[u.id] = totals[u.id].Add(m.Mul(u.n))
		}
	}
	var l []use
	for id, n := range totals {
		l = append(l, use{id, n})
	}
	return sorted(l)
}

// near rounds the active coordinates, which are given times den, and reports whether all rows hold then.
func (d *node) near(y []exact.Int, den exact.Int) (map[int]exact.Int, bool) {
	point := make([]exact.Int, len(d.fixed))
	values := map[int]exact.Int{}
	for k, j := range d.active {
		point[j] = y[k].Round(den)
		values[j] = point[j]
	}
	for _, r := range d.rows {
		if sum(r.a, point).Cmp(r.b) > 0 {
			return nil, false
		}
	}
	return values, true
}

// tighten examines how much each row can get less than its bound. Rows without a limit are dropped: if all others have a solution, a shift along the directions without limits satisfies them, too. Rows that are equations are made ones. It returns the greatest integer differences, or reports that the rows changed.
func (d *node) tighten(t *tableau) ([]exact.Int, bool) {
	widths := make([]exact.Int, len(d.rows))
	dropped := make([]bool, len(d.rows))
	var shift []exact.Int
	var equations []equation
	for i, r := range d.rows {
		if dropped[i] {
			continue
		}
		o := t.maximize(t.slack(i))
		if o.unbounded {
			shift = d.addShift(shift, o.shift)
			for k, q := range d.rows {
				dropped[k] = dropped[k] || sum(q.a, shift).Sign() < 0
			}
			continue
		}
		widths[i] = o.floor()
		if widths[i].IsZero() {
			equations = append(equations, equation{r.a, r.b, r.uses, d.single(d.combine(o.multiples), o.den)}.clone())
		}
	}
	if shift != nil {
		p := putOff{shift: shift}
		var rest []row
		for i, r := range d.rows {
			if dropped[i] {
				p.rows = append(p.rows, r)
			} else {
				rest = append(rest, r)
			}
		}
		d.trail = append(d.trail, p)
		d.rows = rest
		return nil, true
	}
	d.equations = append(d.equations, equations...)
	return widths, len(equations) > 0
}

// addShift adds a direction of the active coordinates to one of all coordinates.
func (d *node) addShift(total, shift []exact.Int) []exact.Int {
	if total == nil {
		total = make([]exact.Int, len(d.fixed))
	}
	for k, j := range d.active {
		total[j] = total[j].Add(shift[k])
	}
	return total
}

// echelon changes the coordinates such that no active one remains on which no row depends.
func (d *node) echelon() {
	all := slices.Clone(d.active)
	var used []int
	for _, r := range d.rows {
		j := d.isolate(r.a)
		if j < 0 {
			continue
		}
		used = append(used, j)
		d.deactivate(j)
	}
	d.active = slices.DeleteFunc(all, func(j int) bool { return !slices.Contains(used, j) })
}

// candidate is a coordinate and its range.
type candidate struct {
	j         int
	low, high exact.Int
	atMost    []use // of the bound high
	atLeast   []use // of the bound low
	center    map[int]exact.Int
}

// thinnest returns the active coordinate with the smallest range, or a solution near the center.
func (d *node) thinnest() candidate {
	t := newTableau(d.rows, d.active)
	t.feasible()
	center := make([]exact.Int, len(d.active))
	var best, opposite optimum
	var width exact.Int
	c := candidate{j: -1}
	scale := exact.Of(1 << 20)
	for _, j := range d.active {
		w := make([]exact.Int, len(d.fixed))
		w[j] = exact.Of(1)
		high := t.maximize(t.form(w, exact.Int{}))
		addVertex(center, t, scale)
		low := t.maximize(t.form(negated(w), exact.Int{}))
		addVertex(center, t, scale)
		if n := high.floor().Add(low.floor()); c.j < 0 || n.Cmp(width) < 0 {
			c.j, width, best, opposite = j, n, high, low
		}
	}
	if values, ok := d.near(center, scale.Mul(exact.Of(2*int64(len(d.active))))); ok {
		c.center = values
		return c
	}
	c.high, c.low = best.floor(), opposite.floor().Neg()
	c.atMost = d.single(d.combine(best.multiples), best.den)
	c.atLeast = d.single(d.combine(opposite.multiples), opposite.den)
	return c
}

// addVertex adds the present point, times scale, to a sum of points.
func addVertex(total []exact.Int, t *tableau, scale exact.Int) {
	for k, y := range t.vertex() {
		total[k] = total[k].Add(y.Mul(scale).Floor(t.den))
	}
}

func (d *node) unit(j int, n int64) []exact.Int {
	a := make([]exact.Int, len(d.fixed))
	a[j] = exact.Of(n)
	return a
}

// split returns the proof that distinguishes whether coordinate j is at most bound.
func (d *node) split(j int, bound exact.Int, first, second api.Proof) api.Proof {
	return api.Proof{Steps: d.steps, Form: bigs(d.v[j]), Bound: bound.Big(), Children: []api.Proof{first, second}}
}

// enumerate examines the values of a coordinate, from the least to the greatest one.
func (d *node) enumerate(c candidate) ([]exact.Int, api.Proof, bool) {
	if c.low.Cmp(c.high) == 0 {
		d.equations = append(d.equations, equation{d.unit(c.j, 1), c.low, c.atMost, c.atLeast})
		return d.solve()
	}
	first, uses := d.child()
	first.equations = append(first.equations, equation{d.unit(c.j, 1), c.low, uses, c.atLeast})
	x, p, ok := first.solve()
	if ok {
		return x, api.Proof{}, true
	}
	second, uses := d.child()
	x, q, ok := second.enumerate(candidate{j: c.j, low: c.low.Add(exact.Of(1)), high: c.high, atMost: c.atMost, atLeast: uses})
	if ok {
		return x, api.Proof{}, true
	}
	return nil, d.split(c.j, c.low, p, q), false
}

// halve examines both halves of the range of a coordinate.
func (d *node) halve(c candidate) ([]exact.Int, api.Proof, bool) {
	middle := c.low.Add(c.high).Floor(exact.Of(2))
	first, uses := d.child()
	first.rows = append(first.rows, row{d.unit(c.j, 1), middle, uses})
	x, p, ok := first.solve()
	if ok {
		return x, api.Proof{}, true
	}
	second, uses := d.child()
	second.rows = append(second.rows, row{d.unit(c.j, -1), middle.Add(exact.Of(1)).Neg(), uses})
	x, q, ok := second.solve()
	if ok {
		return x, api.Proof{}, true
	}
	return nil, d.split(c.j, middle, p, q), false
}
