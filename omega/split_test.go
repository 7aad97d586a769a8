package omega

import (
	"math/rand"
	"testing"

	"disjoint/api"
	"disjoint/cutproof"
	"disjoint/exact"
)

// around returns inequalities that hold at the center of a small region, whose coordinates are fractions.
func around(r *rand.Rand, n, rows int, size, slack int64) []api.Constraint {
	const parts = 12
	center := make([]int64, n)
	for v := range center {
		center[v] = r.Int63n(10*parts) - 5*parts
	}
	var l []api.Constraint
	for range rows {
		c := api.Constraint{}
		at := int64(0)
		for v := range n {
			k := r.Int63n(2*size+1) - size
			c.Linear.Coefs = append(c.Linear.Coefs, api.Coef{Var: v, N: k})
			at += k * center[v]
		}
		// The bound is at least the value at the center.
		c.Linear.Const = -(at/parts + 1 + r.Int63n(slack))
		l = append(l, c)
	}
	return l
}

func splits(p api.Proof) int {
	n := len(p.Children) / 2
	for _, c := range p.Children {
		n += splits(c)
	}
	return n
}

func TestSplitProofs(t *testing.T) {
	r := rand.New(rand.NewSource(44))
	count := 0
	for i := range 6000 {
		n := 2 + r.Intn(4)
		l := around(r, n, n+2+r.Intn(5), int64(3+i%30), int64(1+i%14))
		check(t, n, l)
		if _, p, _ := Solve(n, l); splits(p) > 0 {
			count++
		}
	}
	if count < 20 {
		t.Errorf("only %d proofs have splits", count)
	}
}

// In these systems all constraints depend on fewer forms than there are variables.
func TestFewForms(t *testing.T) {
	r := rand.New(rand.NewSource(45))
	count := map[bool]int{}
	for i := range 1500 {
		k := 1 + r.Intn(3)
		n := k + 1 + r.Intn(3)
		forms := make([][]int64, k)
		for f := range forms {
			for range n {
				forms[f] = append(forms[f], r.Int63n(9)-4)
			}
		}
		var l []api.Constraint
		for _, c := range around(r, k, k+2+r.Intn(5), int64(3+i%20), int64(1+i%14)) {
			d := api.Constraint{Linear: api.Linear{Const: c.Linear.Const}}
			for v := range n {
				x := int64(0)
				for f, y := range c.Linear.Coefs {
					x += y.N * forms[f][v]
				}
				d.Linear.Coefs = append(d.Linear.Coefs, api.Coef{Var: v, N: x})
			}
			l = append(l, d)
		}
		_, ok := check(t, n, l)
		count[ok]++
	}
	if count[true] < 200 || count[false] < 200 {
		t.Errorf("counts: %v", count)
	}
}

// Splits that are chosen by hand: the proofs are correct, and the solutions are found in either half.
func TestHalve(t *testing.T) {
	for _, l := range [][]api.Constraint{
		append(box(2, 0, 20), atMost(1, 0, 2, 1, -2), atMost(-1, 0, -2, 1, 2)),
		append(box(2, 0, 20), atMost(-1, 0, 2, 1, -2)),
		append(box(2, 0, 20), atMost(15, 0, -1)),
		append(box(2, 0, 20), atMost(-3, 0, 1)),
		append(box(2, 0, 20), atMost(9, 0, -1), atMost(-8, 0, 1)),
	} {
		for low := int64(0); low < 20; low += 7 {
			d := newNode(2, l)
			c := candidate{low: exact.Of(low), high: exact.Of(20), atMost: []use{{2, exact.Of(1)}}, atLeast: []use{{0, exact.Of(1)}}}
			x, p, ok := d.halve(c)
			if ok && !Satisfies(l, bigs(x)) || !ok && (len(p.Children) != 2 || !cutproof.Check(cutproof.System(l, 2), p)) {
				t.Errorf("%v: %v, %v, %v", l, x, p, ok)
			}
		}
		d := newNode(2, l)
		x, p, ok := d.enumerate(candidate{low: exact.Of(0), high: exact.Of(20), atMost: []use{{1, exact.Of(1)}}, atLeast: []use{{0, exact.Of(1)}}})
		if _, want := check(t, 2, l); ok != want || ok && !Satisfies(l, bigs(x)) || !ok && !cutproof.Check(cutproof.System(l, 2), p) {
			t.Errorf("%v: %v, %v, %v", l, x, p, ok)
		}
	}
}

func TestDirection(t *testing.T) {
	big := exact.Of(1 << 62).Mul(exact.Of(1 << 62))
	l := [][]exact.Int{{exact.Of(1), {}}, {{}, exact.Of(1)}, {exact.Of(11), exact.Of(1)}, {exact.Of(1), exact.Of(11)}, {exact.Of(1), exact.Of(-11)}, {big, exact.Of(1)}, {big, exact.Of(-1)}, {exact.Of(1), big}, {exact.Of(1), big.Neg()}, {exact.Of(2), big.Add(exact.Of(1))}}
	for i, a := range l {
		for j, b := range l {
			k, sign := direction(a)
			m, _ := direction(b)
			n, opposite := direction(negated(a))
			if (k == m) != (i == j) || k != n || sign != -opposite || sign != 1 {
				t.Errorf("directions %d and %d: %q, %q", i, j, k, m)
			}
		}
	}
}
