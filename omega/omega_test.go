package omega

import (
	"math"
	"math/rand"
	"reflect"
	"slices"
	"testing"

	"disjoint/api"
	"disjoint/bigint"
	"disjoint/cutproof"
)

// form is a linear form: pairs of variables and coefficients behind the constant.
func form(c int64, coefs ...int64) api.Linear {
	f := api.Linear{Const: c}
	for i := 0; i < len(coefs); i += 2 {
		f.Coefs = append(f.Coefs, api.Coef{Var: int(coefs[i]), N: coefs[i+1]})
	}
	return f
}

func atMost(c int64, coefs ...int64) api.Constraint {
	return api.Constraint{Linear: form(c, coefs...)}
}

func equal(c int64, coefs ...int64) api.Constraint {
	return api.Constraint{Linear: form(c, coefs...), Equal: true}
}

// box is the constraints that all variables are from low to high.
func box(n int, low, high int64) []api.Constraint {
	var l []api.Constraint
	for v := range int64(n) {
		l = append(l, atMost(low, v, -1), atMost(-high, v, 1))
	}
	return l
}

// check solves a system, and checks the solution or the proof.
func check(t *testing.T, n int, l []api.Constraint) ([]api.Big, bool) {
	t.Helper()
	if !Valid(n, l) {
		t.Fatalf("not valid: %v", l)
	}
	x, p, ok := Solve(n, l)
	if ok {
		if len(x) != n || !Satisfies(l, x) || !reflect.DeepEqual(p, api.Proof{}) {
			t.Fatalf("%v: wrong solution %s", l, texts(x))
		}
		for _, v := range x {
			if !reflect.DeepEqual(bigint.Normal(v), v) {
				t.Fatalf("a value is not normal: %v", v)
			}
		}
		return x, true
	}
	if x != nil || !cutproof.Check(cutproof.System(l, n), p) {
		t.Fatalf("%v: wrong proof %v", l, p)
	}
	return nil, false
}

func texts(x []api.Big) []string {
	var l []string
	for _, v := range x {
		l = append(l, bigint.Format(v))
	}
	return l
}

func want(t *testing.T, n int, ok bool, l ...api.Constraint) []api.Big {
	t.Helper()
	x, got := check(t, n, l)
	if got != ok {
		t.Errorf("Solve(%v) is %v", l, got)
	}
	return x
}

func TestExamples(t *testing.T) {
	x := want(t, 2, true, equal(-1, 0, 3, 1, -5), atMost(-10, 0, 1), atMost(3, 0, -1))
	if !slices.Equal(texts(x), []string{"7", "4"}) {
		t.Errorf("the solution is %v", texts(x))
	}
	want(t, 2, false, equal(-1, 0, 2, 1, -2))
	want(t, 2, false, atMost(2, 0, 4, 1, -3), atMost(-1, 0, -4, 1, 3))
	x = want(t, 2, true, atMost(0, 0, -1), atMost(-5, 0, 1), equal(-1, 0, -3, 1, 7))
	if !slices.Equal(texts(x), []string{"2", "1"}) {
		t.Errorf("the solution is %v", texts(x))
	}
}

// naive reports whether a system whose variables lie in a box has a solution.
func naive(n int, l []api.Constraint, low, high int64) bool {
	x := make([]int64, n)
	var try func(v int) bool
	try = func(v int) bool {
		if v < n {
			for x[v] = low; x[v] <= high; x[v]++ {
				if try(v + 1) {
					return true
				}
			}
			return false
		}
		for _, c := range l {
			s := c.Linear.Const
			for _, k := range c.Linear.Coefs {
				s += k.N * x[k.Var]
			}
			if s > 0 || c.Equal && s != 0 {
				return false
			}
		}
		return true
	}
	return try(0)
}

func randomSystem(r *rand.Rand, n, rows int, size, constant int64) []api.Constraint {
	var l []api.Constraint
	for range rows {
		c := api.Constraint{Equal: r.Intn(6) == 0, Linear: api.Linear{Const: r.Int63n(2*constant+1) - constant}}
		for v := range n {
			if r.Intn(4) > 0 {
				c.Linear.Coefs = append(c.Linear.Coefs, api.Coef{Var: v, N: r.Int63n(2*size+1) - size})
			}
		}
		l = append(l, c)
	}
	return l
}

func TestRandomBoxes(t *testing.T) {
	r := rand.New(rand.NewSource(37))
	count := map[bool]int{}
	for i := range 6000 {
		n := r.Intn(5)
		high := int64(2 + r.Intn(6))
		l := append(randomSystem(r, n, r.Intn(6), int64(1+i%9), 12), box(n, -2, high)...)
		r.Shuffle(len(l), func(a, b int) { l[a], l[b] = l[b], l[a] })
		_, ok := check(t, n, l)
		if ok != naive(n, l, -2, high) {
			t.Fatalf("Solve(%v) is %v", l, ok)
		}
		count[ok]++
	}
	if count[true] < 1000 || count[false] < 1000 {
		t.Errorf("counts: %v", count)
	}
}

// Without a box there can be solutions far away, or none for subtle reasons.
func TestRandomUnbounded(t *testing.T) {
	r := rand.New(rand.NewSource(38))
	count := map[bool]int{}
	for i := range 4000 {
		n := 1 + r.Intn(5)
		l := randomSystem(r, n, 1+r.Intn(7), int64(1+i%12), 20)
		_, ok := check(t, n, l)
		if !ok && naive(n, l, -4, 4) {
			t.Fatalf("Solve(%v) is false", l)
		}
		count[ok]++
	}
	if count[true] < 500 || count[false] < 500 {
		t.Errorf("counts: %v", count)
	}
}

// strip adds the constraints that a linear form with large coefficients lies in a small range.
func strip(r *rand.Rand, n int, size, width int64) []api.Constraint {
	c, d := api.Constraint{}, api.Constraint{}
	for v := range n {
		k := r.Int63n(size) - size/2
		c.Linear.Coefs = append(c.Linear.Coefs, api.Coef{Var: v, N: k})
		d.Linear.Coefs = append(d.Linear.Coefs, api.Coef{Var: v, N: -k})
	}
	c.Linear.Const = r.Int63n(size)
	d.Linear.Const = -c.Linear.Const - r.Int63n(width)
	return []api.Constraint{c, d}
}

func TestStrips(t *testing.T) {
	r := rand.New(rand.NewSource(39))
	for _, c := range []struct {
		n, rows           int
		size, width, edge int64
		times             int
	}{{2, 3, 1000, 20, 200, 400}, {3, 4, 1000, 200, 100, 300}, {4, 6, 100, 9, 1 << 31, 200}, {6, 8, 20, 5, 50, 100}, {8, 10, 9, 4, 100, 50}, {5, 6, 1 << 20, 1 << 10, 1 << 31, 60}, {3, 2, 1 << 61, 1 << 20, 1 << 62, 60}, {12, 4, 5, 3, 9, 20}} {
		for range c.times {
			l := box(c.n, -c.edge, c.edge)
			for range 1 + r.Intn(2) {
				l = append(l, strip(r, c.n, c.size, c.width)...)
			}
			for range r.Intn(c.rows) {
				l = append(l, strip(r, c.n, c.size, c.size)[0])
			}
			check(t, c.n, l)
		}
	}
}

// The rational solutions of these systems are many, and the integers are found or excluded by splits only.
func TestSplits(t *testing.T) {
	r := rand.New(rand.NewSource(40))
	for _, rows := range []int{1, 2} {
		n := 10 * rows
		for range 4 {
			l := box(n, 0, 1)
			for range rows {
				c := api.Constraint{Equal: true}
				total := int64(0)
				for v := range n {
					k := r.Int63n(100)
					total += k
					c.Linear.Coefs = append(c.Linear.Coefs, api.Coef{Var: v, N: k})
				}
				c.Linear.Const = -total / 2
				l = append(l, c)
			}
			check(t, n, l)
		}
	}
	// Triangles without integer points, as thin and as long as they can be.
	for k := int64(2); k < 60; k++ {
		want(t, 2, false, atMost(1, 1, -k), atMost(0, 0, -1, 1, k), atMost(1-k, 0, 1, 1, 1), atMost(-3*k*k, 0, 1), atMost(0, 0, -1), atMost(1-k, 1, k))
		want(t, 2, k%2 == 0, equal(-k, 0, 2, 1, 4), atMost(-100, 0, 1))
	}
}

func TestManyVariables(t *testing.T) {
	var chain, equations []api.Constraint
	for v := range int64(511) {
		chain = append(chain, atMost(1, v, 1, v+1, -1))
		if v < 60 {
			equations = append(equations, equal(1, v, 2, v+1, -3))
		}
	}
	want(t, 512, true, chain...)
	want(t, 512, false, append(chain, atMost(1, 0, -1, 511, 1))...)
	want(t, 512, true, equations...)
	want(t, 512, true)
	want(t, 0, true)
	want(t, 0, true, atMost(-1), equal(0), atMost(0))
	want(t, 0, false, atMost(1))
	want(t, 3, false, equal(-1))
	want(t, 3, false, equal(1, 0, 0))
	if len(want(t, 512, true, equal(math.MinInt64, 511, 1))) != 512 {
		t.Error("the number of values")
	}
}

func TestLargeCoefficients(t *testing.T) {
	const top = math.MaxInt64
	x := want(t, 2, true, equal(-1, 0, top, 1, -(top-1)), atMost(0, 0, -1), atMost(-top, 0, 1))
	if !slices.Equal(texts(x), []string{"1", "1"}) {
		t.Errorf("the solution is %v", texts(x))
	}
	want(t, 2, false, equal(-1, 0, math.MinInt64, 1, -2))
	want(t, 3, true, equal(top, 0, top-1, 1, top-6), equal(3, 1, top-2, 2, -(top-14)))
	x = want(t, 3, true, equal(math.MinInt64, 0, 1, 1, math.MinInt64), equal(math.MinInt64, 1, 1, 2, math.MinInt64), atMost(top, 2, 1))
	if bigint.Sign(x[2]) >= 0 || len(x[0].Digits) < 5 {
		t.Errorf("the solution is %v", texts(x))
	}
	want(t, 2, false, atMost(1, 0, top, 1, -(top-1)), atMost(0, 0, -(top-1), 1, top-2), atMost(-5, 0, 1), atMost(5, 0, -1), atMost(-5, 1, 1), atMost(6, 1, -1))
}

// The order and repetitions of constraints, positive factors and shifts make no difference, and fewer constraints have more solutions.
func TestVariations(t *testing.T) {
	r := rand.New(rand.NewSource(41))
	for range 1500 {
		n := 1 + r.Intn(4)
		l := randomSystem(r, n, 1+r.Intn(6), 7, 15)
		if r.Intn(2) == 0 {
			l = append(l, box(n, -5, 5)...)
		}
		_, ok := check(t, n, l)
		shift := make([]int64, n)
		for v := range shift {
			shift[v] = r.Int63n(9) - 4
		}
		var varied []api.Constraint
		for _, c := range append(slices.Clone(l), l[r.Intn(len(l))]) {
			k := 1 + r.Int63n(4)
			d := api.Constraint{Equal: c.Equal, Linear: api.Linear{Const: k * c.Linear.Const}}
			for _, x := range c.Linear.Coefs {
				d.Linear.Const += k * x.N * shift[x.Var]
				d.Linear.Coefs = append(d.Linear.Coefs, api.Coef{Var: x.Var, N: k * x.N})
			}
			varied = append(varied, d)
		}
		r.Shuffle(len(varied), func(a, b int) { varied[a], varied[b] = varied[b], varied[a] })
		if _, got := check(t, n, varied); got != ok {
			t.Fatalf("%v is %v, and %v is %v", l, ok, varied, got)
		}
		if _, got := check(t, n, l[1:]); ok && !got {
			t.Fatalf("%v has a solution, but not without the first constraint", l)
		}
	}
}

func TestEquations(t *testing.T) {
	r := rand.New(rand.NewSource(42))
	count := map[bool]int{}
	for range 1500 {
		n := 1 + r.Intn(4)
		l := randomSystem(r, n, r.Intn(5), 5, 8)
		var only []api.Constraint
		for i := range l {
			if l[i].Equal = r.Intn(3) > 0; l[i].Equal {
				only = append(only, l[i])
			}
		}
		x, basis, ok := Equations(n, l)
		_, want := check(t, n, only)
		if ok != want || !ok && (x != nil || basis != nil) {
			t.Fatalf("Equations(%v): %v, %v, %v", l, x, basis, ok)
		}
		count[ok]++
		if ok {
			checkBasis(t, n, only, x, basis)
		}
	}
	if count[true] < 200 || count[false] < 200 {
		t.Errorf("counts: %v", count)
	}
	x, basis, ok := Equations(3, nil)
	if !ok || len(x) != 3 || len(basis) != 3 {
		t.Errorf("without equations: %v, %v, %v", x, basis, ok)
	}
	checkBasis(t, 3, nil, x, basis)
}

// checkBasis checks that the solutions of equations are the sums of x and integer multiples of the vectors, in one way each.
func checkBasis(t *testing.T, n int, l []api.Constraint, x []api.Big, basis [][]api.Big) {
	t.Helper()
	if !Satisfies(l, x) {
		t.Fatalf("%v is no solution of %v", texts(x), l)
	}
	for _, b := range basis {
		y := make([]api.Big, n)
		for i := range y {
			y[i] = bigint.Add(x[i], b[i])
		}
		if !Satisfies(l, y) {
			t.Fatalf("%v does not belong to the basis of %v", texts(b), l)
		}
	}
	combinations := func(y []int64) []api.Constraint {
		var system []api.Constraint
		for i := range n {
			c := equal(0)
			offset, _ := bigint.Int64(x[i])
			c.Linear.Const = offset - y[i]
			for k, b := range basis {
				m, ok := bigint.Int64(b[i])
				if !ok {
					t.Fatal("a large vector")
				}
				c.Linear.Coefs = append(c.Linear.Coefs, api.Coef{Var: k, N: m})
			}
			system = append(system, c)
		}
		return system
	}
	y := make([]int64, n)
	if _, kernel, ok := Equations(len(basis), combinations(y)); ok && len(kernel) > 0 {
		t.Fatalf("the basis %v is not independent", basis)
	}
	var try func(v int)
	try = func(v int) {
		if v < n {
			for y[v] = -2; y[v] <= 2; y[v]++ {
				try(v + 1)
			}
			return
		}
		if naiveSatisfies(l, y) {
			if _, _, ok := Equations(len(basis), combinations(y)); !ok {
				t.Fatalf("the solution %v of %v is no sum of %v and vectors of %v", y, l, texts(x), basis)
			}
		}
	}
	try(0)
}

func naiveSatisfies(l []api.Constraint, x []int64) bool {
	for _, c := range l {
		s := c.Linear.Const
		for _, k := range c.Linear.Coefs {
			s += k.N * x[k.Var]
		}
		if s > 0 || c.Equal && s != 0 {
			return false
		}
	}
	return true
}

func TestLeast(t *testing.T) {
	if x, ok := Least(2, []api.Constraint{equal(-1, 0, 3, 1, -5), atMost(-10, 0, 1), atMost(3, 0, -1)}, 0); !ok || bigint.Format(x) != "7" {
		t.Errorf("Least = %v, %v", x, ok)
	}
	r := rand.New(rand.NewSource(43))
	for range 1500 {
		n := 1 + r.Intn(3)
		l := randomSystem(r, n, r.Intn(5), 6, 15)
		boxed := append(slices.Clone(l), box(n, -4, 5)...)
		v := r.Intn(n)
		wanted, found := int64(9), false
		y := make([]int64, n)
		var try func(k int)
		try = func(k int) {
			if k < n {
				for y[k] = -4; y[k] <= 5; y[k]++ {
					try(k + 1)
				}
			} else if naiveSatisfies(l, y) {
				wanted, found = min(wanted, y[v]), true
			}
		}
		try(0)
		x, ok := Least(n, boxed, v)
		if ok != found || ok && bigint.Compare(x, bigint.Of(wanted)) != 0 || !ok && len(x.Digits) > 0 {
			t.Fatalf("Least(%v, %d) = %s, %v, want %d, %v", boxed, v, bigint.Format(x), ok, wanted, found)
		}
		checkLeast(t, n, l, v)
	}
}

// checkLeast checks the least value of a variable in a system that can be unbounded.
func checkLeast(t *testing.T, n int, l []api.Constraint, v int) {
	t.Helper()
	_, solvable := check(t, n, l)
	x, ok := Least(n, l, v)
	if !ok {
		if _, far := check(t, n, append(slices.Clone(l), atMost(1000000, int64(v), 1))); solvable && !far {
			t.Fatalf("%v: variable %d has a least value", l, v)
		}
		return
	}
	least, small := bigint.Int64(x)
	if !solvable || !small {
		t.Fatalf("%v: the least value is %s", l, bigint.Format(x))
	}
	if _, ok := check(t, n, append(slices.Clone(l), equal(-least, int64(v), 1))); !ok {
		t.Fatalf("%v: the least value %d does not occur", l, least)
	}
	if _, ok := check(t, n, append(slices.Clone(l), atMost(1-least, int64(v), 1))); ok {
		t.Fatalf("%v: %d is not the least value", l, least)
	}
}

func TestLeastFarAway(t *testing.T) {
	// The rational minimum is 1, and the first multiples of both numbers meet at their product.
	l := []api.Constraint{equal(0, 0, 1, 1, -99991), equal(0, 0, 1, 2, -99989), atMost(1, 0, -1)}
	if x, ok := Least(3, l, 0); !ok || bigint.Format(x) != "9998000099" {
		t.Errorf("Least = %s, %v", bigint.Format(x), ok)
	}
	if x, ok := Least(1, []api.Constraint{atMost(math.MinInt64, 0, -1), atMost(0, 0, -1)}, 0); !ok || bigint.Format(x) != "0" {
		t.Errorf("Least = %s, %v", bigint.Format(x), ok)
	}
	if x, ok := Least(1, []api.Constraint{atMost(math.MaxInt64, 0, -1)}, 0); !ok || bigint.Format(x) != "9223372036854775807" {
		t.Errorf("Least = %s, %v", bigint.Format(x), ok)
	}
	if _, ok := Least(2, []api.Constraint{atMost(0, 0, -1)}, 1); ok {
		t.Error("a variable without constraints has a least value")
	}
	if _, ok := Least(1, []api.Constraint{equal(1, 0, 2)}, 0); ok {
		t.Error("a system without solutions has a least value")
	}
}

func TestValid(t *testing.T) {
	for i, c := range []struct {
		n    int
		l    []api.Constraint
		want bool
	}{{0, nil, true}, {512, nil, true}, {513, nil, false}, {-1, nil, false}, {2, []api.Constraint{atMost(1, 0, 0, 1, 5)}, true}, {1, []api.Constraint{atMost(1, 1, 5)}, false}, {2, []api.Constraint{atMost(1, 1, 5, 0, 1)}, false}, {2, []api.Constraint{atMost(1, 1, 5, 1, 1)}, false}, {2, []api.Constraint{atMost(1), atMost(1, -1, 5)}, false}, {512, []api.Constraint{atMost(1, 511, 5)}, true}} {
		if Valid(c.n, c.l) != c.want {
			t.Errorf("case %d: Valid is %v", i, !c.want)
		}
	}
}

func TestSatisfies(t *testing.T) {
	huge, _ := bigint.Parse("170141183460469231731687303715884105728")
	for i, c := range []struct {
		l    []api.Constraint
		x    []api.Big
		want bool
	}{{nil, nil, true}, {[]api.Constraint{atMost(-5, 0, 2)}, []api.Big{bigint.Of(2)}, true}, {[]api.Constraint{atMost(-5, 0, 2)}, []api.Big{bigint.Of(3)}, false}, {[]api.Constraint{equal(-6, 0, 2)}, []api.Big{bigint.Of(3)}, true}, {[]api.Constraint{equal(-5, 0, 2)}, []api.Big{bigint.Of(2)}, false}, {[]api.Constraint{equal(-5, 0, 2)}, []api.Big{bigint.Of(3)}, false}, {[]api.Constraint{atMost(0, 0, 1, 1, 1)}, []api.Big{huge, bigint.Neg(huge)}, true}, {[]api.Constraint{atMost(1, 0, 1, 1, 1)}, []api.Big{huge, bigint.Neg(huge)}, false}, {[]api.Constraint{atMost(0), atMost(1)}, nil, false}, {[]api.Constraint{atMost(-1, 0, 1)}, []api.Big{{Digits: []uint32{1, 0}}}, true}} {
		if Satisfies(c.l, c.x) != c.want {
			t.Errorf("case %d: Satisfies is %v", i, !c.want)
		}
	}
}
