package cutproof

import (
	"math"
	"math/rand"
	"reflect"
	"slices"
	"testing"

	"disjoint/api"
	"disjoint/bigint"
)

func bigs(l ...int64) []api.Big {
	r := make([]api.Big, len(l))
	for i, n := range l {
		r[i] = bigint.Of(n)
	}
	return r
}

// ineq states that the sum of the products with the coefficients is at most bound.
func ineq(bound int64, coefs ...int64) api.Inequality {
	return api.Inequality{Coefs: bigs(coefs...), Bound: bigint.Of(bound)}
}

// step uses N times Index for each pair.
func step(divisor int64, uses ...int64) api.Step {
	s := api.Step{Divisor: bigint.Of(divisor)}
	for i := 0; i < len(uses); i += 2 {
		s.Uses = append(s.Uses, api.Use{Index: int(uses[i]), N: bigint.Of(uses[i+1])})
	}
	return s
}

func same(a, b api.Inequality) bool {
	return slices.EqualFunc(a.Coefs, b.Coefs, func(x, y api.Big) bool { return x.Negative == y.Negative && slices.Equal(x.Digits, y.Digits) }) &&
		bigint.Compare(a.Bound, b.Bound) == 0 && reflect.DeepEqual(bigint.Normal(a.Bound), a.Bound)
}

func constraint(equal bool, c int64, coefs ...int64) api.Constraint {
	x := api.Constraint{Equal: equal, Linear: api.Linear{Const: c}}
	for i := 0; i < len(coefs); i += 2 {
		x.Linear.Coefs = append(x.Linear.Coefs, api.Coef{Var: int(coefs[i]), N: coefs[i+1]})
	}
	return x
}

func TestOf(t *testing.T) {
	for i, c := range []struct {
		c    api.Constraint
		n    int
		want []api.Inequality
	}{
		{constraint(false, 5, 0, 2, 2, -3), 4, []api.Inequality{ineq(-5, 2, 0, -3, 0)}}, {constraint(true, 5, 1, 2), 2, []api.Inequality{ineq(-5, 0, 2), ineq(5, 0, -2)}}, {constraint(true, 0), 0, []api.Inequality{ineq(0), ineq(0)}}, {constraint(false, -1, 0, 0), 1, []api.Inequality{ineq(1, 0)}}, {constraint(false, math.MaxInt64, 511, math.MaxInt64), 512, []api.Inequality{ineq(-math.MaxInt64, append(make([]int64, 511), math.MaxInt64)...)}},
		{constraint(false, 0), 513, nil}, {constraint(false, 0), -1, nil}, {constraint(false, 0, 1, 1), 1, nil}, {constraint(false, 0, -1, 1), 1, nil}, {constraint(false, 0, 1, 1, 0, 1), 2, nil}, {constraint(false, 0, 1, 1, 1, 1), 2, nil}, {constraint(true, 0, math.MaxInt, 1), 2, nil}, {constraint(true, 0, math.MinInt, 1), 2, nil},
	} {
		if got := Of(c.c, c.n); !slices.EqualFunc(got, c.want, same) {
			t.Errorf("case %d: %v", i, got)
		}
	}
	two63, _ := bigint.Parse("9223372036854775808")
	l := Of(constraint(true, math.MinInt64, 0, math.MinInt64), 1)
	if len(l) != 2 || bigint.Compare(l[0].Bound, two63) != 0 || bigint.Compare(l[1].Coefs[0], two63) != 0 || bigint.Compare(l[1].Bound, bigint.Of(math.MinInt64)) != 0 || bigint.Compare(l[0].Coefs[0], bigint.Of(math.MinInt64)) != 0 {
		t.Errorf("the least integers: %v", l)
	}
	l[0].Coefs[0].Digits[0] = 1
	if l[1].Coefs[0].Digits[0] == 1 {
		t.Error("the inequalities share memory")
	}
}

func TestSystem(t *testing.T) {
	a, b, bad := constraint(true, 1, 0, 1), constraint(false, 2), constraint(false, 0, 5, 1)
	if got := System([]api.Constraint{a, b}, 1); !slices.EqualFunc(got, []api.Inequality{ineq(-1, 1), ineq(1, -1), ineq(-2, 0)}, same) {
		t.Errorf("System = %v", got)
	}
	if System([]api.Constraint{a, bad}, 1) != nil || System(nil, 3) != nil || System([]api.Constraint{a}, 513) != nil {
		t.Error("systems that are not valid")
	}
}

func TestApply(t *testing.T) {
	l := []api.Inequality{ineq(5, 2, -4), ineq(-7, 1, 3), {Coefs: []api.Big{{Digits: []uint32{6, 0}}, {Negative: true}}, Bound: api.Big{Negative: true, Digits: []uint32{9, 0, 0}}}}
	for i, c := range []struct {
		s    api.Step
		want api.Inequality
		ok   bool
	}{
		{step(1, 0, 1), ineq(5, 2, -4), true}, {step(2, 0, 1), ineq(2, 1, -2), true}, {step(1, 0, 1, 1, 2), ineq(-9, 4, 2), true}, {step(2, 0, 1, 1, 2), ineq(-5, 2, 1), true}, {step(3), ineq(0, 0, 0), true}, {step(1, 0, 0), ineq(0, 0, 0), true}, {step(1, 2, 1), ineq(-9, 6, 0), true}, {step(6, 2, 1), ineq(-2, 1, 0), true}, {step(4, 0, 1, 0, 1), ineq(2, 1, -2), true},
		{step(3, 0, 1), api.Inequality{}, false}, {step(0, 0, 1), api.Inequality{}, false}, {step(-1, 0, 1), api.Inequality{}, false}, {step(1, 3, 1), api.Inequality{}, false}, {step(1, -1, 1), api.Inequality{}, false}, {step(1, 0, -1), api.Inequality{}, false}, {step(1, 3, 0), api.Inequality{}, false}, {step(4, 0, 1), api.Inequality{}, false},
	} {
		got, ok := Apply(l, c.s)
		if ok != c.ok || !same(got, c.want) {
			t.Errorf("case %d: %v, %v", i, got, ok)
		}
	}
	for i, bad := range [][]api.Inequality{{ineq(0, 1), ineq(0)}, {ineq(0), ineq(0, 1)}, {ineq(0, 1), ineq(0, 1), ineq(0, 1, 1)}} {
		if got, ok := Apply(bad, step(1)); ok || got.Coefs != nil {
			t.Errorf("Apply to a list %d that is no system: %v", i, got)
		}
		if Check(bad, api.Proof{Steps: []api.Step{step(1)}}) || Check(append(bad, ineq(-1)), api.Proof{}) {
			t.Errorf("Check of a list %d that is no system", i)
		}
	}
	if got, ok := Apply(nil, step(5)); !ok || !same(got, ineq(0)) {
		t.Errorf("Apply to the empty system: %v, %v", got, ok)
	}
	got, _ := Apply(l, step(1, 0, 1))
	got.Coefs[0].Digits[0] = 99
	got.Bound.Digits[0] = 99
	if l[0].Coefs[0].Digits[0] != 2 || l[0].Bound.Digits[0] != 5 {
		t.Error("the result shares memory with the system")
	}
}

func split(form []int64, bound int64, first, second api.Proof, steps ...api.Step) api.Proof {
	return api.Proof{Steps: steps, Form: bigs(form...), Bound: bigint.Of(bound), Children: []api.Proof{first, second}}
}

func proof(steps ...api.Step) api.Proof { return api.Proof{Steps: steps} }

func TestExamples(t *testing.T) {
	for i, c := range []struct {
		l    []api.Inequality
		p    api.Proof
		size int
	}{
		{[]api.Inequality{ineq(2, 1), ineq(-5, -1)}, proof(step(1, 0, 1, 1, 1)), 1},
		{[]api.Inequality{ineq(5, 2), ineq(-5, -2)}, proof(step(2, 0, 1), step(2, 1, 1), step(1, 2, 1, 3, 1)), 3},
		{[]api.Inequality{ineq(4, 3), ineq(-4, -3)}, split([]int64{1}, 1, proof(step(1, 1, 1, 2, 3)), proof(step(1, 0, 1, 2, 3))), 3},
		{[]api.Inequality{ineq(-1, 0)}, api.Proof{}, 0}, {[]api.Inequality{ineq(3, 1), ineq(-1, 0)}, proof(step(1)), 1}, {[]api.Inequality{ineq(-1)}, proof(), 0},
		{[]api.Inequality{ineq(4, 3), ineq(-4, -3)}, split([]int64{0}, 0, split([]int64{1}, 1, proof(step(1, 1, 1, 3, 3)), proof(step(1, 0, 1, 3, 3))), proof()), 4},
	} {
		if !Check(c.l, c.p) {
			t.Errorf("proof %d is not correct", i)
		}
		if Size(c.p) != c.size {
			t.Errorf("proof %d has the size %d", i, Size(c.p))
		}
	}
}

func TestWrongProofs(t *testing.T) {
	l := []api.Inequality{ineq(4, 3), ineq(-4, -3)}
	left, right := proof(step(1, 1, 1, 2, 3)), proof(step(1, 0, 1, 2, 3))
	for i, p := range []api.Proof{
		{}, proof(step(1, 0, 1, 1, 1)), proof(step(2, 0, 1)), proof(step(1, 2, 1)), proof(step(1, 0, 1), step(1, 3, 1)), proof(step(0)),
		split([]int64{1}, 1, right, left), split([]int64{1}, 2, left, right), split([]int64{1}, 0, left, right), split([]int64{-1}, 1, left, right), split([]int64{1, 0}, 1, left, right), split(nil, 1, left, right), split([]int64{1}, 1, left, proof()), split([]int64{1}, 1, proof(), right), split([]int64{1}, 1, left, right, step(1, 9, 1)),
		{Form: bigs(1), Bound: bigint.Of(1), Children: []api.Proof{left}}, {Form: bigs(1), Bound: bigint.Of(1), Children: []api.Proof{left, right, left}},
	} {
		if Check(l, p) {
			t.Errorf("proof %d is accepted", i)
		}
	}
	if Check(nil, proof()) || Check(nil, proof(step(1))) || Check([]api.Inequality{ineq(0)}, proof()) {
		t.Error("a proof for a system with a solution is accepted")
	}
	// A contradiction among the inequalities does not make wrong steps or wrong children correct.
	bad := []api.Inequality{ineq(-1, 0)}
	if Check(bad, proof(step(1, 5, 1))) || Check(bad, api.Proof{Children: []api.Proof{{}}}) || Check(bad, split([]int64{1, 1}, 0, proof(), proof())) || !Check(bad, split([]int64{1}, 0, proof(), proof())) {
		t.Error("a contradiction among the inequalities")
	}
	if Check(nil, split([]int64{1, 1}, 0, proof(), proof())) || Check(nil, split(nil, 0, proof(), proof())) || Check(nil, split(nil, -1, proof(), proof())) {
		t.Error("splits of the empty system")
	}
	// If there are no inequalities, the form of a split can have any number of coefficients.
	inner := split([]int64{0, 0}, 0, proof(), proof())
	if Check(nil, split([]int64{0, 0}, -1, proof(), inner)) || Check(nil, split([]int64{0, 0, 0}, -1, proof(), inner)) {
		t.Error("splits within splits of the empty system")
	}
}

// The inequalities of a split are Form <= Bound and -Form <= -Bound - 1.
func TestSplitInequalities(t *testing.T) {
	l := []api.Inequality{ineq(3, 1, 0)}
	p := split([]int64{0, 2}, 7, proof(step(1, 0, 1), step(1, 3, 1)), proof())
	if Check(l, p) {
		t.Error("accepted")
	}
	for bound := int64(-3); bound <= 3; bound++ {
		first := proof(step(1, 0, 1, 1, 1))  // 0 <= bound
		second := proof(step(1, 0, 0, 1, 1)) // 0 <= -bound - 1
		want := bound < 0 && -bound-1 < 0
		if Check([]api.Inequality{ineq(0, 0)}, split([]int64{0}, bound, first, second)) != want {
			t.Errorf("a split of zero at %d", bound)
		}
	}
	// Steps before the split can be used in both children, and those of one child not in the other one.
	l = []api.Inequality{ineq(4, 3), ineq(-4, -3)}
	shared := split([]int64{1}, 1, proof(step(1, 2, 1), step(1, 1, 1, 3, 3)), proof(step(1, 2, 1, 3, 3)), step(1, 0, 1))
	if !Check(l, shared) {
		t.Error("steps before the split")
	}
	if Check(l, split([]int64{1}, 1, proof(step(1, 0, 1), step(1, 1, 1, 2, 3)), proof(step(1, 3, 1, 2, 3)))) {
		t.Error("a step of the other child is used")
	}
}

func TestHoldsAndContradictory(t *testing.T) {
	q := ineq(5, 2, -1)
	for i, c := range []struct {
		x    []api.Big
		want bool
	}{{bigs(3, 1), true}, {bigs(3, 0), false}, {bigs(0, 0), true}, {bigs(3), false}, {bigs(1, 1, 1), false}, {[]api.Big{{Digits: []uint32{3, 0}}, {Digits: []uint32{1, 0, 0}}}, true}, {bigs(-math.MaxInt64, 5), true}} {
		if Holds(q, c.x) != c.want {
			t.Errorf("case %d: Holds is %v", i, !c.want)
		}
	}
	if !Holds(ineq(0), nil) || Holds(ineq(-1), nil) || !Holds(ineq(math.MinInt64, 1), bigs(math.MinInt64)) {
		t.Error("Holds")
	}
	for i, c := range []struct {
		q    api.Inequality
		want bool
	}{{ineq(-1), true}, {ineq(0), false}, {ineq(-1, 0, 0), true}, {ineq(-1, 0, 1), false}, {ineq(1, 0), false}, {api.Inequality{Coefs: []api.Big{{Negative: true, Digits: []uint32{0}}}, Bound: api.Big{Negative: true, Digits: []uint32{1, 0}}}, true}, {api.Inequality{Bound: api.Big{Negative: true, Digits: []uint32{0}}}, false}} {
		if Contradictory(c.q) != c.want {
			t.Errorf("case %d: Contradictory is %v", i, !c.want)
		}
	}
}

func TestSum(t *testing.T) {
	uses := []api.Use{{Index: 1, N: api.Big{Digits: []uint32{3, 0}}}, {Index: 0, N: bigint.Of(2)}}
	p := Sum(uses)
	if !reflect.DeepEqual(p, proof(step(1, 1, 3, 0, 2))) {
		t.Errorf("Sum = %v", p)
	}
	p.Steps[0].Uses[1].N.Digits[0] = 9
	if uses[1].N.Digits[0] != 2 || Size(Sum(nil)) != 1 {
		t.Error("Sum shares memory with its argument")
	}
}

// What a correct step derives holds wherever the system holds, and no solution satisfies a refuted system.
func TestSound(t *testing.T) {
	r := rand.New(rand.NewSource(24))
	for range 3000 {
		l := make([]api.Inequality, 1+r.Intn(3))
		for i := range l {
			l[i] = ineq(r.Int63n(9)-4, r.Int63n(7)-3, r.Int63n(7)-3)
		}
		s := step(1+r.Int63n(3), 0, r.Int63n(3), int64(len(l)-1), r.Int63n(3))
		q, ok := Apply(l, s)
		refuted := Check(l, proof(s)) || Check(l, split([]int64{1, 0}, 0, proof(s), proof(step(1, 0, 1, int64(len(l)), 1))))
		for x := int64(-5); x <= 5; x++ {
			for y := int64(-5); y <= 5; y++ {
				all := true
				for _, c := range l {
					all = all && Holds(c, bigs(x, y))
				}
				if all && (ok && !Holds(q, bigs(x, y)) || refuted) {
					t.Fatalf("%v: step %v, %v, refuted %v", l, s, q, refuted)
				}
			}
		}
	}
}

func TestDeepProofs(t *testing.T) {
	l := []api.Inequality{ineq(100, 1), ineq(-1, 0)}
	p := proof()
	for i := range 300 {
		p = split([]int64{1}, int64(i), p, proof(step(1, 0, 1)), step(1, 0, 1))
	}
	if !Check(l, p) || Size(p) != 900 {
		t.Errorf("a deep proof of size %d", Size(p))
	}
}
