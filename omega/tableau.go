package omega

import (
	"disjoint/exact"
)

// tableau is a dictionary of linear programming. Its variables are the slacks of rows, numbered from 0, which must not be negative, and then the active coordinates, which are free. Each basic variable is a linear function of the variables that are not basic: for line i, den times the variable basic[i] is lines[i][0] plus the sum of the products of lines[i][k+1] and the variable other[k].
type tableau struct {
	rows   []row
	active []int
	basic  []int
	other  []int
	lines  [][]exact.Int
	den    exact.Int // positive
}

func newTableau(rows []row, active []int) *tableau {
	t := &tableau{rows: rows, active: active, den: exact.Of(1)}
	for k := range active {
		t.other = append(t.other, len(rows)+k)
	}
	for i, r := range rows {
		line := make([]exact.Int, len(active)+1)
		line[0] = r.b
		for k, j := range active {
			line[k+1] = r.a[j].Neg()
		}
		t.basic = append(t.basic, i)
		t.lines = append(t.lines, line)
	}
	for k := range active {
		t.enter(k)
	}
	return t
}

// enter makes a coordinate basic, unless no slack depends on it.
func (t *tableau) enter(k int) {
	best := -1
	for i, line := range t.lines {
		if t.isSlack(t.basic[i]) && !line[k+1].IsZero() && (best < 0 || line[k+1].Abs().Cmp(t.lines[best][k+1].Abs()) < 0) {
			best = i
		}
	}
	if best >= 0 {
		t.pivot(best, k)
	}
}

func (t *tableau) isSlack(variable int) bool { return variable < len(t.rows) }

// full reports whether all coordinates are basic, so that the rows determine a point if their slacks are given.
func (t *tableau) full() bool {
	for _, v := range t.other {
		if !t.isSlack(v) {
			return false
		}
	}
	return true
}

// pivot exchanges the basic variable of line i and the variable other[k].
func (t *tableau) pivot(i, k int) {
	p := t.lines[i][k+1]
	pivotLine := t.lines[i]
	for n, line := range t.lines {
		if n == i {
			continue
		}
		f := line[k+1]
		for c := range line {
			if c != k+1 {
				line[c] = p.Mul(line[c]).Sub(f.Mul(pivotLine[c])).Floor(t.den)
			}
		}
	}
	for c := range pivotLine {
		pivotLine[c] = pivotLine[c].Neg()
	}
	pivotLine[k+1] = t.den
	t.basic[i], t.other[k] = t.other[k], t.basic[i]
	t.den = p
	if p.Sign() < 0 {
		t.den = p.Neg()
		for _, line := range t.lines {
			for c := range line {
				line[c] = line[c].Neg()
			}
		}
	}
}

// feasible moves to a point where no slack is negative, if there is one. Otherwise it returns multiples of the rows whose sum is a contradiction. The variables with the least numbers are exchanged, so that it comes to an end.
func (t *tableau) feasible() ([]exact.Int, bool) {
	for {
		i := t.leastBasic(func(i int) bool { return t.lines[i][0].Sign() < 0 })
		if i < 0 {
			return nil, true
		}
		k := t.leastOther(func(k int) bool { return t.lines[i][k+1].Sign() > 0 })
		if k >= 0 {
			t.pivot(i, k)
			continue
		}
		multiples := make([]exact.Int, len(t.rows))
		multiples[t.basic[i]] = t.den
		for k, v := range t.other {
			if t.isSlack(v) {
				multiples[v] = t.lines[i][k+1].Neg()
			}
		}
		return multiples, false
	}
}

// leastBasic returns the line of the slack with the least number that is wanted, or -1.
func (t *tableau) leastBasic(wanted func(line int) bool) int {
	best := -1
	for i, v := range t.basic {
		if t.isSlack(v) && (best < 0 || v < t.basic[best]) && wanted(i) {
			best = i
		}
	}
	return best
}

// leastOther returns the position of the variable with the least number that is not basic and wanted, or -1.
func (t *tableau) leastOther(wanted func(k int) bool) int {
	best := -1
	for k, v := range t.other {
		if (best < 0 || v < t.other[best]) && wanted(k) {
			best = k
		}
	}
	return best
}

// slack returns den times the slack of a row as a function of the variables that are not basic.
func (t *tableau) slack(r int) []exact.Int {
	for i, v := range t.basic {
		if v == r {
			return append([]exact.Int(nil), t.lines[i]...)
		}
	}
	line := make([]exact.Int, len(t.other)+1)
	for k, v := range t.other {
		if v == r {
			line[k+1] = t.den
		}
	}
	return line
}

// form returns den times the value of a linear form plus a constant as a function of the variables that are not basic.
func (t *tableau) form(w []exact.Int, constant exact.Int) []exact.Int {
	line := make([]exact.Int, len(t.other)+1)
	line[0] = constant.Mul(t.den)
	for i, v := range t.basic {
		if t.isSlack(v) {
			continue
		}
		if c := w[t.active[v-len(t.rows)]]; !c.IsZero() {
			for k, x := range t.lines[i] {
				line[k] = line[k].Add(c.Mul(x))
			}
		}
	}
	for k, v := range t.other {
		if !t.isSlack(v) {
			line[k+1] = line[k+1].Add(w[t.active[v-len(t.rows)]].Mul(t.den))
		}
	}
	return line
}

// optimum is the result of a maximization: the maximum is value divided by den; or, if it is unbounded, it increases along shift. In the first case, den times the form is at most the sum of multiples of the rows, whose bound is that of the maximum.
type optimum struct {
	unbounded bool
	shift     []exact.Int // of the active coordinates
	value     exact.Int
	den       exact.Int
	multiples []exact.Int
}

func (o optimum) floor() exact.Int { return o.value.Floor(o.den) }

// maximize moves from a feasible point to one where a function is greatest; objective is den times the function.
func (t *tableau) maximize(objective []exact.Int) optimum {
	// The objective takes part in the pivots as the line of a variable that is never exchanged.
	t.basic = append(t.basic, len(t.rows)+len(t.active))
	t.lines = append(t.lines, objective)
	last := len(t.lines) - 1
	defer func() {
		t.basic, t.lines = t.basic[:last], t.lines[:last]
	}()
	for {
		k := t.leastOther(func(k int) bool {
			return t.lines[last][k+1].Sign() > 0 || !t.isSlack(t.other[k]) && !t.lines[last][k+1].IsZero()
		})
		if k < 0 {
			break
		}
		i := t.ratio(k)
		if i < 0 {
			return optimum{unbounded: true, shift: t.ray(k, t.lines[last][k+1].Sign())}
		}
		t.pivot(i, k)
	}
	o := optimum{value: t.lines[last][0], den: t.den, multiples: make([]exact.Int, len(t.rows))}
	for k, v := range t.other {
		if t.isSlack(v) {
			o.multiples[v] = t.lines[last][k+1].Neg()
		}
	}
	return o
}

// ratio returns the line of the slack that becomes 0 first if the variable other[k] increases, or -1.
func (t *tableau) ratio(k int) int {
	best := -1
	for i, v := range t.basic {
		if !t.isSlack(v) || t.lines[i][k+1].Sign() >= 0 {
			continue
		}
		if best >= 0 {
			a := t.lines[i][0].Mul(t.lines[best][k+1])
			b := t.lines[best][0].Mul(t.lines[i][k+1])
			// Both coefficients are negative: the sign of the comparison changes.
			if c := b.Cmp(a); c > 0 || c == 0 && v > t.basic[best] {
				continue
			}
		}
		best = i
	}
	return best
}

// ray returns the direction in which the coordinates move if the variable other[k] increases (or decreases, for a negative sign).
func (t *tableau) ray(k, sign int) []exact.Int {
	shift := make([]exact.Int, len(t.active))
	for i, v := range t.basic {
		if n := v - len(t.rows); n >= 0 && n < len(shift) {
			shift[n] = t.lines[i][k+1]
		}
	}
	if n := t.other[k] - len(t.rows); n >= 0 {
		shift[n] = t.den
	}
	if sign < 0 {
		return negated(shift)
	}
	return shift
}

// vertex returns den times the active coordinates at the present point.
func (t *tableau) vertex() []exact.Int {
	y := make([]exact.Int, len(t.active))
	for i, v := range t.basic {
		if n := v - len(t.rows); n >= 0 && n < len(y) {
			y[n] = t.lines[i][0]
		}
	}
	return y
}
