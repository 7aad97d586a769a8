package dbm

import (
	"math"
	"math/rand"
	"slices"
	"testing"

	"disjoint/api"
)

// difference is the bound x[i] - x[j] <= c.
type difference struct {
	i, j int
	c    int64
}

func build(t *testing.T, n int, l []difference) *Matrix {
	t.Helper()
	m, e := New(n)
	if e != api.OK {
		t.Fatal(e)
	}
	for _, d := range l {
		if e := m.Add(d.i, d.j, d.c); e != api.OK {
			t.Fatalf("Add(%v): %d", d, e)
		}
	}
	return m
}

// closure returns the least upper bounds of all differences by repeated addition, and whether there is a solution. It is used with small constants only.
func closure(n int, l []difference) ([][]int64, bool) {
	const none = math.MaxInt64 / 4
	d := make([][]int64, n+1)
	for i := range d {
		d[i] = slices.Repeat([]int64{none}, n+1)
		d[i][i] = 0
	}
	for _, x := range l {
		d[x.i][x.j] = min(d[x.i][x.j], x.c)
	}
	for k := range d {
		for i := range d {
			for j := range d {
				if d[i][k] < none && d[k][j] < none {
					d[i][j] = max(min(d[i][j], d[i][k]+d[k][j]), -none)
				}
			}
		}
	}
	for i := range d {
		if d[i][i] < 0 {
			return nil, false
		}
	}
	return d, true
}

func checkModel(t *testing.T, m *Matrix, n int, l []difference) {
	t.Helper()
	x, ok := m.Model()
	if !ok || len(x) != n {
		t.Fatalf("Model() = %v, %v", x, ok)
	}
	for _, v := range x {
		if v < -1<<60 || v > 1<<60 {
			t.Fatalf("a value is %d", v)
		}
	}
	x = append(x, 0)
	for _, d := range l {
		if x[d.i]-x[d.j] > d.c {
			t.Fatalf("%v does not hold in %v", d, x)
		}
	}
}

func checkCycle(t *testing.T, m *Matrix, l []difference) {
	t.Helper()
	c := m.Cycle()
	if len(c) == 0 {
		t.Fatal("there is no cycle")
	}
	sum := int64(0)
	seen := map[int]bool{}
	for k, position := range c {
		if position < 0 || position >= len(l) {
			t.Fatalf("the cycle is %v", c)
		}
		d, next := l[position], l[c[(k+1)%len(c)]]
		if d.j != next.i || seen[d.i] {
			t.Fatalf("%v is no cycle", c)
		}
		seen[d.i] = true
		sum += d.c
	}
	if sum >= 0 {
		t.Fatalf("the sum of the cycle is %d", sum)
	}
	if x, ok := m.Model(); x != nil || ok {
		t.Fatalf("Model() = %v, %v", x, ok)
	}
}

func checkAll(t *testing.T, n int, l []difference) bool {
	t.Helper()
	m := build(t, n, l)
	d, ok := closure(n, l)
	if m.Satisfiable() != ok {
		t.Fatalf("Satisfiable() = %v for %v", !ok, l)
	}
	if ok {
		checkModel(t, m, n, l)
		if m.Cycle() != nil {
			t.Fatalf("a cycle of %v", l)
		}
	} else {
		checkCycle(t, m, l)
	}
	for i := range n + 1 {
		for j := range n + 1 {
			b, has := m.Bound(i, j)
			want := ok && d[i][j] < 1<<40
			if has != want || has && b != d[i][j] || !has && b != 0 {
				t.Fatalf("Bound(%d, %d) = %d, %v for %v", i, j, b, has, l)
			}
		}
	}
	return ok
}

func TestRandom(t *testing.T) {
	r := rand.New(rand.NewSource(25))
	count := map[bool]int{}
	for range 6000 {
		n := r.Intn(6)
		l := make([]difference, r.Intn(3*n+3))
		for k := range l {
			l[k] = difference{r.Intn(n + 1), r.Intn(n + 1), r.Int63n(12) - 3}
		}
		ok := checkAll(t, n, l)
		count[ok]++
		r.Shuffle(len(l), func(a, b int) { l[a], l[b] = l[b], l[a] })
		if checkAll(t, n, l) != ok {
			t.Fatal("the order matters")
		}
	}
	if count[true] < 1000 || count[false] < 1000 {
		t.Errorf("counts: %v", count)
	}
}

// The greatest difference is attained, and a greater one is not.
func TestBoundIsAttained(t *testing.T) {
	r := rand.New(rand.NewSource(26))
	for range 1000 {
		n := 1 + r.Intn(4)
		l := make([]difference, r.Intn(10))
		for k := range l {
			l[k] = difference{r.Intn(n + 1), r.Intn(n + 1), r.Int63n(12) - 2}
		}
		i, j := r.Intn(n+1), r.Intn(n+1)
		if b, ok := build(t, n, l).Bound(i, j); ok {
			if !build(t, n, append(l, difference{j, i, -b})).Satisfiable() || build(t, n, append(l, difference{j, i, -b - 1})).Satisfiable() {
				t.Fatalf("Bound(%d, %d) = %d for %v", i, j, b, l)
			}
		}
	}
}

func TestExtremes(t *testing.T) {
	const top = int64(1) << 50
	for _, sign := range []int64{1, -1} {
		var chain []difference
		for i := range 64 {
			chain = append(chain, difference{i, i + 1, sign * top})
		}
		m := build(t, 64, chain)
		checkModel(t, m, 64, chain)
		if b, ok := m.Bound(0, 64); b != sign*64*top || !ok {
			t.Errorf("Bound = %d, %v", b, ok)
		}
		if _, ok := m.Bound(64, 0); ok {
			t.Error("a bound of the opposite difference")
		}
		closed := append(chain, difference{64, 0, -sign * top})
		if sign < 0 {
			checkCycle(t, build(t, 64, closed), closed)
		} else {
			checkModel(t, build(t, 64, closed), 64, closed)
		}
	}
	dense := func(c int64) []difference {
		var l []difference
		for i := range 65 {
			for j := range 65 {
				l = append(l, difference{i, j, c})
			}
		}
		return l
	}
	checkCycle(t, build(t, 64, dense(-top)), dense(-top))
	checkModel(t, build(t, 64, dense(top)), 64, dense(top))
	if b, ok := build(t, 64, dense(top)).Bound(3, 9); b != top || !ok {
		t.Errorf("Bound = %d, %v", b, ok)
	}
}

func TestErrors(t *testing.T) {
	for _, n := range []int{-1, 65, math.MaxInt, math.MinInt} {
		if m, e := New(n); m != nil || e != api.ErrInvalid {
			t.Errorf("New(%d): %v, %d", n, m, e)
		}
	}
	for _, n := range []int{0, 1, 64} {
		m, e := New(n)
		if e != api.OK || !m.Satisfiable() || m.Cycle() != nil {
			t.Errorf("New(%d): %d", n, e)
		}
		if x, ok := m.Model(); len(x) != n || !ok {
			t.Errorf("Model() = %v, %v", x, ok)
		}
	}
	m, _ := New(2)
	for _, c := range []struct {
		i, j int
		c    int64
		want api.Errno
	}{{3, 0, 0, api.ErrInvalid}, {0, 3, 0, api.ErrInvalid}, {-1, 0, 0, api.ErrInvalid}, {0, -1, 1 << 60, api.ErrInvalid}, {0, 1, 1<<50 + 1, api.ErrTooLarge}, {0, 1, -1<<50 - 1, api.ErrTooLarge}, {1, 1, math.MinInt64, api.ErrTooLarge}, {0, 1, 1 << 50, api.OK}, {2, 2, 0, api.OK}, {1, 0, -1 << 50, api.OK}} {
		if e := m.Add(c.i, c.j, c.c); e != c.want {
			t.Errorf("Add(%d, %d, %d) = %d", c.i, c.j, c.c, e)
		}
	}
	if !m.Satisfiable() {
		t.Error("refused bounds count")
	}
	// Refused bounds have no position.
	if m.Add(0, 0, -1) != api.OK || !slices.Equal(m.Cycle(), []int{3}) {
		t.Errorf("the cycle is %v", m.Cycle())
	}
	for _, p := range [][2]int{{-1, 0}, {0, 3}, {3, 3}, {0, -1}} {
		if b, ok := m.Bound(p[0], p[1]); b != 0 || ok {
			t.Errorf("Bound(%v) = %d, %v", p, b, ok)
		}
	}
}

func TestExample(t *testing.T) {
	m := build(t, 2, []difference{{0, 1, -3}, {1, 2, 5}})
	if b, ok := m.Bound(0, 2); b != 2 || !ok {
		t.Errorf("Bound(0, 2) = %d, %v", b, ok)
	}
	if m.Add(2, 0, -3) != api.OK || m.Satisfiable() {
		t.Error("the system is satisfiable")
	}
	c := m.Cycle()
	slices.Sort(c)
	if !slices.Equal(c, []int{0, 1, 2}) {
		t.Errorf("the cycle is %v", c)
	}
	if b, ok := m.Bound(0, 1); b != 0 || ok {
		t.Errorf("Bound without a solution: %d, %v", b, ok)
	}
}

func TestPositions(t *testing.T) {
	m := build(t, 1, []difference{{0, 1, 5}, {0, 1, 9}, {1, 0, -2}, {0, 1, 1}, {0, 1, 1}})
	if c := m.Cycle(); len(c) != 2 || !slices.Contains(c, 2) || !slices.Contains(c, 3) && !slices.Contains(c, 4) {
		t.Errorf("the cycle is %v", c)
	}
}

func TestOf(t *testing.T) {
	form := func(equal bool, k int64, coefs ...int64) api.Constraint {
		c := api.Constraint{Equal: equal, Linear: api.Linear{Const: k}}
		for i := 0; i < len(coefs); i += 2 {
			c.Linear.Coefs = append(c.Linear.Coefs, api.Coef{Var: int(coefs[i]), N: coefs[i+1]})
		}
		return c
	}
	for k, c := range []struct {
		c    api.Constraint
		n    int
		i, j int
		b    int64
		ok   bool
	}{
		{form(false, 7, 2, 1), 4, 2, 4, -7, true}, {form(false, -7, 2, -1), 4, 4, 2, 7, true}, {form(false, 7, 0, 1, 3, -1), 4, 0, 3, -7, true}, {form(false, 0, 0, -1, 3, 1), 4, 3, 0, 0, true}, {form(false, 7, 3, 1, 0, -1), 4, 3, 0, -7, true}, {form(false, 1<<50, 0, 1), 1, 0, 1, -1 << 50, true}, {form(false, -1<<50, 0, 1), 1, 0, 1, 1 << 50, true}, {form(false, 1, 99, 1), 100, 99, 100, -1, true},
		{form(true, 7, 2, 1), 4, 0, 0, 0, false}, {form(false, 1<<50+1, 0, 1), 1, 0, 0, 0, false}, {form(false, -1<<50-1, 0, 1), 1, 0, 0, 0, false}, {form(false, math.MinInt64, 0, 1), 1, 0, 0, 0, false}, {form(false, 1), 1, 0, 0, 0, false}, {form(false, 1, 0, 2), 1, 0, 0, 0, false}, {form(false, 1, 0, 0), 1, 0, 0, 0, false}, {form(false, 1, 0, -2), 1, 0, 0, 0, false}, {form(false, 1, 0, 1, 1, 1), 2, 0, 0, 0, false}, {form(false, 1, 0, -1, 1, -1), 2, 0, 0, 0, false}, {form(false, 1, 0, 1, 1, -1, 2, 1), 3, 0, 0, 0, false}, {form(false, 1, 0, 1, 0, -1), 3, 0, 0, 0, false}, {form(false, 1, 1, 1), 1, 0, 0, 0, false}, {form(false, 1, -1, 1), 1, 0, 0, 0, false}, {form(false, 1, 0, 1, 3, -1), 3, 0, 0, 0, false}, {form(false, 1, 0, 1), 0, 0, 0, 0, false}, {form(false, 1, 0, 1, 1, -1, 2, 0), 3, 0, 0, 0, false},
	} {
		if i, j, b, ok := Of(c.c, c.n); i != c.i || j != c.j || b != c.b || ok != c.ok {
			t.Errorf("case %d: %d, %d, %d, %v", k, i, j, b, ok)
		}
	}
}

// The bound of a constraint holds exactly where the constraint holds.
func TestOfMeaning(t *testing.T) {
	for a := int64(-1); a <= 1; a++ {
		for b := int64(-1); b <= 1; b++ {
			c := api.Constraint{Linear: api.Linear{Const: 2}}
			for v, n := range []int64{a, b} {
				if n != 0 {
					c.Linear.Coefs = append(c.Linear.Coefs, api.Coef{Var: v, N: n})
				}
			}
			i, j, bound, ok := Of(c, 2)
			for x := int64(-5); x <= 5 && ok; x++ {
				for y := int64(-5); y <= 5; y++ {
					values := []int64{x, y, 0}
					if (values[i]-values[j] <= bound) != (a*x+b*y+2 <= 0) {
						t.Fatalf("%d x + %d y + 2 <= 0 for %d, %d", a, b, x, y)
					}
				}
			}
		}
	}
}
