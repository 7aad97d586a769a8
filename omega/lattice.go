package omega

import (
	"disjoint/exact"
)

// lattice is the state of the reduction of a basis (the integral algorithm of Lenstra, Lenstra and Lovász, as Cohen describes it). The vectors are the columns of the active coordinates in the rows, where each row counts the more, the smaller its width is: so the length of a direction tells how many widths it crosses.
type lattice struct {
	d       *node
	weights []exact.Int
	// det[k] is the determinant of the inner products of the first k vectors, and l[k][j] / det[j+1] is the coefficient of vector k along vector j, made orthogonal to those before.
	det []exact.Int
	l   [][]exact.Int
}

// reduceLattice changes the coordinates such that the active ones are a reduced basis.
func (d *node) reduceLattice(widths []exact.Int) {
	widest := exact.Int{}
	for _, w := range widths {
		if w.Cmp(widest) > 0 {
			widest = w
		}
	}
	x := lattice{d: d, det: []exact.Int{exact.Of(1)}}
	for _, w := range widths {
		// The quotient is rounded up.
		c := widest.Neg().Floor(w).Neg()
		x.weights = append(x.weights, c.Mul(c))
	}
	for k := 0; k < len(d.active); {
		if k == len(x.l) {
			x.extend()
		}
		if k > 0 {
			x.subtract(k, k-1)
			if x.shorter(k) {
				x.swap(k)
				k = max(k-1, 1)
				continue
			}
			for j := k - 2; j >= 0; j-- {
				x.subtract(k, j)
			}
		}
		k++
	}
}

// product returns the inner product of two vectors.
func (x *lattice) product(k, j int) exact.Int {
	a, b := x.d.active[k], x.d.active[j]
	s := exact.Int{}
	for i, r := range x.d.rows {
		if !r.a[a].IsZero() && !r.a[b].IsZero() {
			s = s.Add(x.weights[i].Mul(r.a[a]).Mul(r.a[b]))
		}
	}
	return s
}

// extend computes the coefficients of the next vector.
func (x *lattice) extend() {
	k := len(x.l)
	x.l = append(x.l, make([]exact.Int, k))
	for j := range k + 1 {
		u := x.product(k, j)
		for i := range j {
			u = x.det[i+1].Mul(u).Sub(x.l[k][i].Mul(x.l[j][i])).Floor(x.det[i])
		}
		if j < k {
			x.l[k][j] = u
		} else {
			x.det = append(x.det, u)
		}
	}
}

// subtract makes the coefficient of vector k along vector j small.
func (x *lattice) subtract(k, j int) {
	q := x.l[k][j].Round(x.det[j+1])
	if q.IsZero() {
		return
	}
	x.d.addColumn(x.d.active[k], x.d.active[j], q.Neg())
	x.l[k][j] = x.l[k][j].Sub(q.Mul(x.det[j+1]))
	for i := range j {
		x.l[k][i] = x.l[k][i].Sub(q.Mul(x.l[j][i]))
	}
}

// shorter reports whether vectors k - 1 and k should be exchanged.
func (x *lattice) shorter(k int) bool {
	a := x.det[k+1].Mul(x.det[k-1])
	b := x.det[k].Mul(x.det[k])
	c := x.l[k][k-1].Mul(x.l[k][k-1])
	four, three := exact.Of(4), exact.Of(3)
	return four.Mul(a).Cmp(three.Mul(b).Sub(four.Mul(c))) < 0
}

// swap exchanges vectors k - 1 and k.
func (x *lattice) swap(k int) {
	x.d.swapColumns(x.d.active[k], x.d.active[k-1])
	for j := range k - 1 {
		x.l[k][j], x.l[k-1][j] = x.l[k-1][j], x.l[k][j]
	}
	c := x.l[k][k-1]
	b := x.det[k-1].Mul(x.det[k+1]).Add(c.Mul(c)).Floor(x.det[k])
	for i := k + 1; i < len(x.l); i++ {
		u := x.l[i][k]
		x.l[i][k] = x.det[k+1].Mul(x.l[i][k-1]).Sub(c.Mul(u)).Floor(x.det[k])
		x.l[i][k-1] = b.Mul(u).Add(c.Mul(x.l[i][k])).Floor(x.det[k+1])
	}
	x.det[k] = b
}
