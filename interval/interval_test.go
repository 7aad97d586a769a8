package interval

import (
	"math"
	"math/rand"
	"slices"
	"testing"

	"disjoint/api"
)

const (
	least    = math.MinInt64
	greatest = math.MaxInt64
)

func TestOf(t *testing.T) {
	for i, c := range []struct{ l, want []Interval }{
		{[]Interval{{7, 9}, {1, 3}, {4, 4}}, []Interval{{1, 4}, {7, 9}}}, {nil, nil}, {[]Interval{{2, 1}, {greatest, least}}, nil}, {[]Interval{{1, 1}, {3, 3}}, []Interval{{1, 1}, {3, 3}}}, {[]Interval{{1, 9}, {2, 3}, {5, 12}}, []Interval{{1, 12}}},
		{[]Interval{{least, least}, {least + 1, 0}, {greatest, greatest}}, []Interval{{least, 0}, {greatest, greatest}}}, {[]Interval{{0, greatest}, {5, 6}, {greatest, greatest}}, []Interval{{0, greatest}}}, {[]Interval{{least, greatest}, {least, 3}}, []Interval{{least, greatest}}}, {[]Interval{{least, -1}, {0, greatest}}, []Interval{{least, greatest}}}, {[]Interval{{0, greatest - 2}, {greatest, greatest}}, []Interval{{0, greatest - 2}, {greatest, greatest}}},
	} {
		if got := Of(c.l...); !slices.Equal(got, Set(c.want)) || !Valid(got) {
			t.Errorf("case %d: %v", i, got)
		}
	}
	l := []Interval{{5, 6}, {1, 2}}
	Of(l...)[0].Low = 9
	if l[0] != (Interval{5, 6}) || l[1] != (Interval{1, 2}) {
		t.Error("the argument is changed")
	}
}

func TestValid(t *testing.T) {
	for _, s := range []Set{nil, {{0, 0}}, {{least, -2}, {0, greatest}}, {{1, 3}, {5, 5}, {9, 9}}, {{least, least}, {greatest, greatest}}} {
		if !Valid(s) {
			t.Errorf("%v is not valid", s)
		}
	}
	for _, s := range []Set{{{1, 0}}, {{1, 3}, {4, 5}}, {{1, 3}, {2, 5}}, {{5, 6}, {1, 2}}, {{1, 3}, {6, 5}}, {{0, greatest}, {greatest, greatest}}, {{least, greatest}, {3, 4}}, {{0, greatest}, {least, least}}} {
		if Valid(s) {
			t.Errorf("%v is valid", s)
		}
	}
}

func randomSet(r *rand.Rand) Set {
	var l []Interval
	for range r.Intn(5) {
		low := r.Int63n(30) - 5
		l = append(l, Interval{low, low + r.Int63n(6) - 1})
	}
	return Of(l...)
}

func TestSets(t *testing.T) {
	r := rand.New(rand.NewSource(35))
	for range 3000 {
		a, b := randomSet(r), randomSet(r)
		keptA, keptB := slices.Clone(a), slices.Clone(b)
		union, meet := Union(a, b), Meet(a, b)
		if !Valid(a) || !Valid(union) || !Valid(meet) {
			t.Fatalf("not valid: %v, %v, %v", a, union, meet)
		}
		low, high, any := int64(99), int64(-99), false
		for n := int64(-10); n < 40; n++ {
			x := slices.ContainsFunc(keptA, func(i Interval) bool { return i.Low <= n && n <= i.High })
			y := slices.ContainsFunc(keptB, func(i Interval) bool { return i.Low <= n && n <= i.High })
			if Contains(a, n) != x || Contains(union, n) != (x || y) || Contains(meet, n) != (x && y) {
				t.Fatalf("%v and %v at %d", a, b, n)
			}
			if x {
				low, high, any = min(low, n), max(high, n), true
			}
		}
		hull, ok := Hull(a)
		if ok != any || any && hull != (Interval{low, high}) || !any && hull != (Interval{}) {
			t.Fatalf("Hull(%v) = %v, %v", a, hull, ok)
		}
		for _, s := range []Set{union, meet} {
			for i := range s {
				s[i].Low = 77
			}
		}
		if !slices.Equal(a, keptA) || !slices.Equal(b, keptB) {
			t.Fatal("an argument is changed, or shares memory with a result")
		}
	}
	if s := Meet(Set{{least, greatest}}, Set{{least, 3}, {7, greatest}}); !slices.Equal(s, Set{{least, 3}, {7, greatest}}) || !Contains(s, least) || !Contains(s, greatest) || Contains(s, 5) {
		t.Errorf("Meet = %v", s)
	}
}

func form(c int64, coefs ...int64) api.Linear {
	f := api.Linear{Const: c}
	for i := 0; i < len(coefs); i += 2 {
		f.Coefs = append(f.Coefs, api.Coef{Var: int(coefs[i]), N: coefs[i+1]})
	}
	return f
}

func atMost(f api.Linear) api.Constraint { return api.Constraint{Linear: f} }

func equal(f api.Linear) api.Constraint { return api.Constraint{Linear: f, Equal: true} }

func valueOf(f api.Linear, x []int64) int64 {
	n := f.Const
	for _, c := range f.Coefs {
		n += c.N * x[c.Var]
	}
	return n
}

// naive performs the rounds by trying all values.
func naive(l []api.Constraint, domains []Interval) ([]Interval, bool) {
	d := slices.Clone(domains)
	for _, i := range d {
		if i.Low > i.High {
			return nil, false
		}
	}
	for range 32 {
		changed := false
		for _, c := range l {
			constant := true
			for k, x := range c.Linear.Coefs {
				if x.N == 0 {
					continue
				}
				constant = false
				low, high := c.Linear.Const, c.Linear.Const
				for j, y := range c.Linear.Coefs {
					if j != k {
						low += min(y.N*d[y.Var].Low, y.N*d[y.Var].High)
						high += max(y.N*d[y.Var].Low, y.N*d[y.Var].High)
					}
				}
				n := Interval{1, 0}
				for v := d[x.Var].Low; v <= d[x.Var].High; v++ {
					if x.N*v+low <= 0 && (!c.Equal || x.N*v+high >= 0) {
						if n.Low > n.High {
							n.Low = v
						}
						n.High = v
					}
				}
				if n.Low > n.High {
					return nil, false
				}
				changed = changed || n != d[x.Var]
				d[x.Var] = n
			}
			if constant && (c.Linear.Const > 0 || c.Equal && c.Linear.Const != 0) {
				return nil, false
			}
		}
		if !changed {
			break
		}
	}
	return d, true
}

func TestPropagate(t *testing.T) {
	r := rand.New(rand.NewSource(36))
	failed := 0
	for range 3000 {
		n := 1 + r.Intn(3)
		domains := make([]Interval, n)
		for i := range domains {
			domains[i].Low = r.Int63n(20) - 10
			domains[i].High = domains[i].Low + r.Int63n(15) - 1
		}
		var l []api.Constraint
		for range r.Intn(4) {
			f := api.Linear{Const: r.Int63n(30) - 15}
			for v := range n {
				if r.Intn(4) > 0 {
					f.Coefs = append(f.Coefs, api.Coef{Var: v, N: r.Int63n(9) - 4})
				}
			}
			l = append(l, api.Constraint{Linear: f, Equal: r.Intn(3) == 0})
		}
		kept := slices.Clone(domains)
		got, ok := Propagate(l, domains)
		want, wantOK := naive(l, domains)
		if ok != wantOK || !slices.Equal(got, want) {
			t.Fatalf("Propagate(%v, %v) = %v, %v, want %v, %v", l, domains, got, ok, want, wantOK)
		}
		if !ok {
			failed++
		}
		checkSolutions(t, l, domains, got, ok)
		for i := range got {
			got[i].Low = 99
		}
		if !slices.Equal(domains, kept) {
			t.Fatal("the domains are changed, or share memory with the result")
		}
	}
	if failed < 300 || failed > 2700 {
		t.Errorf("%d of 3000 fail", failed)
	}
}

// checkSolutions checks that all solutions lie in the result.
func checkSolutions(t *testing.T, l []api.Constraint, domains, got []Interval, ok bool) {
	t.Helper()
	x := make([]int64, len(domains))
	var try func(v int)
	try = func(v int) {
		if v < len(x) {
			for x[v] = domains[v].Low; x[v] <= domains[v].High; x[v]++ {
				try(v + 1)
			}
			return
		}
		for _, c := range l {
			if n := valueOf(c.Linear, x); n > 0 || c.Equal && n != 0 {
				return
			}
		}
		if !ok {
			t.Fatalf("%v is a solution", x)
		}
		for i, d := range got {
			if x[i] < d.Low || x[i] > d.High {
				t.Fatalf("the solution %v does not lie in %v", x, got)
			}
		}
	}
	try(0)
}

func TestRounds(t *testing.T) {
	// Each round makes the least value of the first variable two greater.
	l := []api.Constraint{atMost(form(1, 0, 1, 1, -1)), atMost(form(1, 0, -1, 1, 1))}
	got, ok := Propagate(l, []Interval{{0, 1000}, {0, 1000}})
	if want, _ := naive(l, []Interval{{0, 1000}, {0, 1000}}); !ok || !slices.Equal(got, want) || got[0].Low != 64 {
		t.Errorf("Propagate = %v, %v", got, ok)
	}
	if got, ok := Propagate(l, []Interval{{0, 60}, {0, 60}}); ok || got != nil {
		t.Errorf("Propagate = %v, %v", got, ok)
	}
	for i, c := range []struct {
		l    []api.Constraint
		want bool
	}{{nil, true}, {[]api.Constraint{atMost(form(0))}, true}, {[]api.Constraint{atMost(form(-3, 0, 0))}, true}, {[]api.Constraint{atMost(form(1))}, false}, {[]api.Constraint{equal(form(0, 0, 0))}, true}, {[]api.Constraint{equal(form(-1))}, false}, {[]api.Constraint{equal(form(1, 0, 0))}, false}} {
		got, ok := Propagate(c.l, []Interval{{3, 4}})
		if ok != c.want || ok && !slices.Equal(got, []Interval{{3, 4}}) {
			t.Errorf("case %d: %v, %v", i, got, ok)
		}
	}
	if got, ok := Propagate(nil, []Interval{{0, 1}, {1, 0}}); ok || got != nil {
		t.Errorf("an empty domain: %v, %v", got, ok)
	}
	if got, ok := Propagate(nil, nil); !ok || len(got) != 0 {
		t.Errorf("no domains: %v, %v", got, ok)
	}
}

func TestLargeNumbers(t *testing.T) {
	const edge = int64(1) << 32
	var f api.Linear
	var domains []Interval
	for v := range 64 {
		f.Coefs = append(f.Coefs, api.Coef{Var: v, N: 1 << 20 * int64(1-v%2*2)})
		domains = append(domains, Interval{-edge, edge})
	}
	f.Const = 1 << 40
	if got, ok := Range(f, domains); !ok || got != (Interval{1<<40 - 1<<58, 1<<40 + 1<<58}) {
		t.Errorf("Range = %v, %v", got, ok)
	}
	if got, ok := Propagate([]api.Constraint{equal(f)}, domains); !ok || !slices.Equal(got, domains) {
		t.Errorf("Propagate = %v, %v", got, ok)
	}
	for v := range domains {
		domains[v] = Interval{edge * int64(1-v%2*2), edge * int64(1-v%2*2)}
	}
	if _, ok := Propagate([]api.Constraint{atMost(f)}, domains); ok {
		t.Error("Propagate")
	}
}

func TestRange(t *testing.T) {
	domains := []Interval{{0, 3}, {1, 4}, {5, 4}}
	if got, ok := Range(form(1, 0, 2, 1, -1), domains); !ok || got != (Interval{-3, 6}) {
		t.Errorf("Range = %v, %v", got, ok)
	}
	if got, ok := Range(form(7, 2, 0), domains); !ok || got != (Interval{7, 7}) {
		t.Errorf("Range = %v, %v", got, ok)
	}
	if got, ok := Range(form(7, 0, 1, 2, 1), domains); ok || got != (Interval{}) {
		t.Errorf("Range = %v, %v", got, ok)
	}
	got, ok := Propagate([]api.Constraint{atMost(form(1, 0, 1, 1, -1)), atMost(form(-5, 1, 1))}, []Interval{{0, 9}, {0, 9}})
	if !ok || !slices.Equal(got, []Interval{{0, 4}, {1, 5}}) {
		t.Errorf("Propagate = %v, %v", got, ok)
	}
}
