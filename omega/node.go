package omega

import (
	"slices"

	"disjoint/api"
	"disjoint/exact"
)

// node is a system in some coordinates y: the variables are x = u * y, and y = v * x, where u and v are inverse to each other. The coordinates that are not active are either fixed, or put off: their values are determined after those of all others.
type node struct {
	prover
	u, v      [][]exact.Int
	active    []int
	fixed     []exact.Int // the values of the fixed coordinates, and 0 for the others
	rows      []row
	equations []equation
	trail     []putOff
}

// putOff describes what has to be done when all later coordinates have values: if shift is nil, coordinate j gets a value that satisfies rows; otherwise all coordinates are shifted by a multiple of shift, such that rows hold.
type putOff struct {
	j     int
	shift []exact.Int
	rows  []row
}

func newNode(n int, l []api.Constraint) *node {
	d := &node{u: identity(n), v: identity(n), fixed: make([]exact.Int, n)}
	for i := range n {
		d.active = append(d.active, i)
	}
	for _, c := range l {
		a := make([]exact.Int, n)
		for _, x := range c.Linear.Coefs {
			a[x.Var] = exact.Of(x.N)
		}
		b := exact.Of(c.Linear.Const).Neg()
		// The numbers are those of the inequalities in System of layer 18.
		uses := []use{{d.count, exact.Of(1)}}
		d.count++
		if !c.Equal {
			d.rows = append(d.rows, row{a, b, uses})
			continue
		}
		d.equations = append(d.equations, equation{a, b, uses, []use{{d.count, exact.Of(1)}}})
		d.count++
	}
	return d
}

// limit adds the inequality that a variable of a new node is at most b, which proofs cannot use.
func (d *node) limit(v int, b exact.Int) {
	a := make([]exact.Int, len(d.fixed))
	a[v] = exact.Of(1)
	d.rows = append(d.rows, row{a: a, b: b})
}

func identity(n int) [][]exact.Int {
	m := make([][]exact.Int, n)
	for i := range m {
		m[i] = make([]exact.Int, n)
		m[i][i] = exact.Of(1)
	}
	return m
}

func negated(a []exact.Int) []exact.Int {
	r := make([]exact.Int, len(a))
	for i, c := range a {
		r[i] = c.Neg()
	}
	return r
}

// child returns a copy of d, which has no equations, to which a further inequality of the proof is available, and the uses of that inequality.
func (d *node) child() (*node, []use) {
	c := &node{prover: prover{count: d.count + 1}, u: cloneMatrix(d.u), v: cloneMatrix(d.v), active: slices.Clone(d.active), fixed: slices.Clone(d.fixed)}
	for _, r := range d.rows {
		c.rows = append(c.rows, r.clone())
	}
	for _, p := range d.trail {
		q := putOff{j: p.j, shift: slices.Clone(p.shift)}
		for _, r := range p.rows {
			q.rows = append(q.rows, r.clone())
		}
		c.trail = append(c.trail, q)
	}
	return c, []use{{d.count, exact.Of(1)}}
}

func cloneMatrix(m [][]exact.Int) [][]exact.Int {
	r := make([][]exact.Int, len(m))
	for i, l := range m {
		r[i] = slices.Clone(l)
	}
	return r
}

// forms calls f for the coefficients of everything that is a linear form in the coordinates.
func (d *node) forms(f func(a []exact.Int)) {
	for _, r := range d.rows {
		f(r.a)
	}
	for _, e := range d.equations {
		f(e.a)
	}
	for _, l := range d.u {
		f(l)
	}
	for _, p := range d.trail {
		for _, r := range p.rows {
			f(r.a)
		}
	}
}

// addColumn changes the coordinates such that in every linear form q times the coefficient of j is added to that of i.
func (d *node) addColumn(i, j int, q exact.Int) {
	d.forms(func(a []exact.Int) {
		if !a[j].IsZero() {
			a[i] = a[i].Add(q.Mul(a[j]))
		}
	})
	for k := range d.v[j] {
		if !d.v[i][k].IsZero() {
			d.v[j][k] = d.v[j][k].Sub(q.Mul(d.v[i][k]))
		}
	}
	for _, p := range d.trail {
		if p.shift != nil {
			p.shift[j] = p.shift[j].Sub(q.Mul(p.shift[i]))
		}
	}
}

// swapColumns exchanges two coordinates.
func (d *node) swapColumns(i, j int) {
	d.forms(func(a []exact.Int) { a[i], a[j] = a[j], a[i] })
	d.v[i], d.v[j] = d.v[j], d.v[i]
	for _, p := range d.trail {
		if p.shift != nil {
			p.shift[i], p.shift[j] = p.shift[j], p.shift[i]
		}
	}
}

func (d *node) deactivate(j int) {
	d.active = slices.DeleteFunc(d.active, func(k int) bool { return k == j })
}

// solution returns the values of the variables for values of the active coordinates that satisfy all rows.
func (d *node) solution(values map[int]exact.Int) []exact.Int {
	y := slices.Clone(d.fixed)
	for _, j := range d.active {
		y[j] = values[j]
	}
	for _, p := range slices.Backward(d.trail) {
		if p.shift != nil {
			p.shiftBy(y)
		} else {
			p.choose(y)
		}
	}
	x := make([]exact.Int, len(y))
	for i := range x {
		x[i] = sum(d.u[i], y)
	}
	return x
}

// choose sets coordinate j to the value that is closest to the rows whose coefficients of it are 1 or -1: where rows bound it from both sides, those of one side have such coefficients.
func (p putOff) choose(y []exact.Int) {
	y[p.j] = exact.Int{}
	var low, high *exact.Int
	unitLow := true
	for _, r := range p.rows {
		c := r.a[p.j]
		rest := r.b.Sub(sum(r.a, y))
		if c.Sign() > 0 {
			if v := rest.Floor(c); high == nil || v.Cmp(*high) < 0 {
				high = &v
			}
			continue
		}
		unitLow = unitLow && c.Neg().IsOne()
		if v := rest.Floor(c.Neg()).Neg(); low == nil || v.Cmp(*low) > 0 {
			low = &v
		}
	}
	switch {
	case low != nil && (high == nil || unitLow):
		y[p.j] = *low
	case high != nil:
		y[p.j] = *high
	}
}

// shiftBy adds the least multiple of shift for which the rows hold, along which they get less.
func (p putOff) shiftBy(y []exact.Int) {
	times := exact.Int{}
	for _, r := range p.rows {
		excess := sum(r.a, y).Sub(r.b)
		if excess.Sign() <= 0 {
			continue
		}
		gain := sum(r.a, p.shift).Neg()
		if k := excess.Neg().Floor(gain).Neg(); k.Cmp(times) > 0 {
			times = k
		}
	}
	for i := range y {
		y[i] = y[i].Add(times.Mul(p.shift[i]))
	}
}
