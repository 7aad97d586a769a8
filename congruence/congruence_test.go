package congruence

import (
	"math"
	"math/big"
	"math/rand"
	"testing"

	"disjoint/api"
)

const top = int64(1) << 62

var invalid = []Class{{}, {0, 0}, {0, -1}, {3, 3}, {-1, 3}, {5, 3}, {0, top + 1}, {0, math.MinInt64}, {math.MinInt64, math.MaxInt64}}

var edges = []int64{0, 1, -1, 2, 3, -3, 4, 6, 7, 10, -10, 12, 1 << 31, 1<<31 - 1, top, top - 1, top + 1, -top, math.MaxInt64, math.MaxInt64 - 1, math.MinInt64, math.MinInt64 + 1}

func modBig(n, m int64) int64 {
	return new(big.Int).Mod(big.NewInt(n), big.NewInt(m)).Int64()
}

func TestNew(t *testing.T) {
	for _, r := range edges {
		for _, m := range edges {
			c, e := New(r, m)
			if m < 1 || m > top {
				if e != api.ErrInvalid || c != (Class{}) {
					t.Errorf("New(%d, %d) = %v, %d", r, m, c, e)
				}
				continue
			}
			if e != api.OK || c != (Class{modBig(r, m), m}) {
				t.Errorf("New(%d, %d) = %v, %d", r, m, c, e)
			}
			for _, n := range edges {
				if Contains(c, n) != (modBig(n, m) == c.Residue) {
					t.Errorf("Contains(%v, %d)", c, n)
				}
			}
		}
	}
}

func TestInvalidClasses(t *testing.T) {
	good := Class{0, 1}
	for _, c := range invalid {
		if Contains(c, 0) || Contains(c, c.Residue) || Count(c, -10, 10) != 0 {
			t.Errorf("%v has elements", c)
		}
		if n, ok := Next(c, 0); n != 0 || ok {
			t.Errorf("Next(%v)", c)
		}
		for _, p := range [][2]Class{{c, good}, {good, c}, {c, c}} {
			if m, ok, e := Meet(p[0], p[1]); m != (Class{}) || ok || e != api.ErrInvalid {
				t.Errorf("Meet(%v, %v) = %v, %v, %d", p[0], p[1], m, ok, e)
			}
		}
	}
}

func TestMeetSmall(t *testing.T) {
	for m := int64(1); m <= 12; m++ {
		for n := int64(1); n <= 12; n++ {
			for r := range m {
				for s := range n {
					checkMeet(t, Class{r, m}, Class{s, n})
				}
			}
		}
	}
}

func checkMeet(t *testing.T, a, b Class) {
	c, ok, e := Meet(a, b)
	if e != api.OK || !ok && c != (Class{}) {
		t.Fatalf("Meet(%v, %v) = %v, %v, %d", a, b, c, ok, e)
	}
	if ok && c.Modulus != a.Modulus/GCD(a.Modulus, b.Modulus)*b.Modulus {
		t.Fatalf("Meet(%v, %v) has the modulus %d", a, b, c.Modulus)
	}
	for x := int64(-150); x <= 150; x++ {
		if Contains(c, x) != (Contains(a, x) && Contains(b, x)) {
			t.Fatalf("Meet(%v, %v) = %v is wrong for %d", a, b, c, x)
		}
	}
	if d, ok2, e2 := Meet(b, a); d != c || ok2 != ok || e2 != e {
		t.Fatalf("Meet(%v, %v) is not commutative", a, b)
	}
}

func TestMeetAssociative(t *testing.T) {
	r := rand.New(rand.NewSource(3))
	class := func() Class {
		m := 1 + r.Int63n(40)
		return Class{r.Int63n(m), m}
	}
	for range 5000 {
		a, b, c := class(), class(), class()
		x, _, _ := Meet(a, b)
		y, _, _ := Meet(b, c)
		var left, right Class
		if x.Modulus > 0 {
			left, _, _ = Meet(x, c)
		}
		if y.Modulus > 0 {
			right, _, _ = Meet(a, y)
		}
		if left != right {
			t.Fatalf("%v, %v, %v: %v and %v", a, b, c, left, right)
		}
	}
}

func TestMeetLarge(t *testing.T) {
	r := rand.New(rand.NewSource(4))
	for range 5000 {
		m, n := 1+r.Int63n(1<<33), 1+r.Int63n(1<<33)
		a, b := Class{r.Int63n(m), m}, Class{r.Int63n(n), n}
		lcm := new(big.Int).Mul(big.NewInt(m/GCD(m, n)), big.NewInt(n))
		c, ok, e := Meet(a, b)
		switch common := (a.Residue-b.Residue)%GCD(m, n) == 0; {
		case !common && (ok || e != api.OK || c != (Class{})):
			t.Fatalf("Meet(%v, %v) = %v, %v, %d", a, b, c, ok, e)
		case common && lcm.Cmp(big.NewInt(top)) > 0 && (ok || e != api.ErrTooLarge || c != (Class{})):
			t.Fatalf("Meet(%v, %v) = %v, %v, %d", a, b, c, ok, e)
		case common && lcm.Cmp(big.NewInt(top)) <= 0 && (!ok || e != api.OK || !Contains(a, c.Residue) || !Contains(b, c.Residue) || c.Modulus != lcm.Int64()):
			t.Fatalf("Meet(%v, %v) = %v, %v, %d", a, b, c, ok, e)
		}
	}
}

func TestMeetLimits(t *testing.T) {
	if c, ok, e := Meet(Class{5, top}, Class{1, 2}); c != (Class{5, top}) || !ok || e != api.OK {
		t.Errorf("the greatest modulus: %v, %v, %d", c, ok, e)
	}
	if _, ok, e := Meet(Class{5, top}, Class{2, 3}); ok || e != api.ErrTooLarge {
		t.Errorf("a greater modulus: %v, %d", ok, e)
	}
	if _, ok, e := Meet(Class{5, top}, Class{0, 6}); ok || e != api.OK {
		t.Errorf("an empty intersection: %v, %d", ok, e)
	}
	if c, ok, e := Meet(Class{1, 1 << 31}, Class{1 << 30, 1<<31 - 1}); !ok || e != api.OK || c.Modulus != (1<<31)*(1<<31-1) || !Contains(Class{1, 1 << 31}, c.Residue) || !Contains(Class{1 << 30, 1<<31 - 1}, c.Residue) {
		t.Errorf("coprime moduli: %v, %v, %d", c, ok, e)
	}
}

func TestNextAndCount(t *testing.T) {
	for m := int64(1); m <= 9; m++ {
		for r := range m {
			c := Class{r, m}
			for low := int64(-25); low <= 25; low++ {
				want := low
				for modBig(want, m) != r {
					want++
				}
				if n, ok := Next(c, low); n != want || !ok {
					t.Fatalf("Next(%v, %d) = %d, %v", c, low, n, ok)
				}
				count := int64(0)
				for high := low - 1; high <= 25; high++ {
					if high >= low && modBig(high, m) == r {
						count++
					}
					if Count(c, low, high) != count {
						t.Fatalf("Count(%v, %d, %d) = %d, want %d", c, low, high, Count(c, low, high), count)
					}
				}
			}
		}
	}
}

func TestNextAndCountAtTheEnds(t *testing.T) {
	const least, greatest = math.MinInt64, math.MaxInt64
	for _, x := range []struct {
		c    Class
		n    int64
		want int64
		ok   bool
	}{{Class{0, 1}, greatest, greatest, true}, {Class{7, 8}, greatest, greatest, true}, {Class{6, 8}, greatest, 0, false}, {Class{0, 8}, greatest - 6, 0, false}, {Class{0, top}, least, least, true}, {Class{1, top}, least, least + 1, true}, {Class{top - 1, top}, top, top + (top - 1), true}, {Class{0, top}, top + 1, 0, false}} {
		if n, ok := Next(x.c, x.n); n != x.want || ok != x.ok {
			t.Errorf("Next(%v, %d) = %d, %v", x.c, x.n, n, ok)
		}
	}
	for _, x := range []struct {
		c         Class
		low, high int64
		want      int64
	}{{Class{0, 1}, least, greatest, greatest}, {Class{0, 1}, 0, greatest, greatest}, {Class{0, 1}, 1, greatest, greatest}, {Class{0, 1}, 2, greatest, greatest - 1}, {Class{0, 1}, least, -2, greatest}, {Class{0, 2}, least, greatest, greatest}, {Class{0, 3}, least, greatest, 6148914691236517205}, {Class{0, 4}, least, greatest, top}, {Class{0, top}, least, greatest, 4}, {Class{0, top}, greatest, least, 0}, {Class{0, 2}, greatest, greatest, 0}, {Class{1, 2}, greatest, greatest, 1}} {
		if n := Count(x.c, x.low, x.high); n != x.want {
			t.Errorf("Count(%v, %d, %d) = %d, want %d", x.c, x.low, x.high, n, x.want)
		}
	}
}

func TestSolve(t *testing.T) {
	for m := int64(1); m <= 14; m++ {
		for a := int64(-15); a <= 15; a++ {
			for b := int64(-15); b <= 15; b++ {
				c, ok, e := Solve(a, b, m)
				if e != api.OK || ok && c.Modulus != m/GCD(a, m) || !ok && c != (Class{}) {
					t.Fatalf("Solve(%d, %d, %d) = %v, %v, %d", a, b, m, c, ok, e)
				}
				for x := int64(-20); x <= 20; x++ {
					if Contains(c, x) != ((a*x-b)%m == 0) {
						t.Fatalf("Solve(%d, %d, %d) = %v is wrong for %d", a, b, m, c, x)
					}
				}
			}
		}
	}
	for _, m := range []int64{0, -1, top + 1, math.MinInt64, math.MaxInt64} {
		if c, ok, e := Solve(1, 1, m); c != (Class{}) || ok || e != api.ErrInvalid {
			t.Errorf("Solve modulo %d = %v, %v, %d", m, c, ok, e)
		}
	}
}

func TestSolveLarge(t *testing.T) {
	for _, a := range edges {
		for _, b := range edges {
			for _, m := range edges {
				if m < 1 || m > top {
					continue
				}
				g := new(big.Int).GCD(nil, nil, big.NewInt(modBig(a, m)), big.NewInt(m)).Int64()
				c, ok, e := Solve(a, b, m)
				if e != api.OK || ok != (modBig(b, g) == 0) {
					t.Fatalf("Solve(%d, %d, %d) = %v, %v, %d", a, b, m, c, ok, e)
				}
				if !ok {
					continue
				}
				rest := new(big.Int).Mul(big.NewInt(a), big.NewInt(c.Residue))
				rest.Sub(rest, big.NewInt(b)).Mod(rest, big.NewInt(m))
				if !valid(c) || c.Modulus != m/g || rest.Sign() != 0 {
					t.Fatalf("Solve(%d, %d, %d) = %v", a, b, m, c)
				}
			}
		}
	}
}

func TestExtended(t *testing.T) {
	r := rand.New(rand.NewSource(5))
	numbers := append([]int64(nil), edges...)
	for range 200 {
		numbers = append(numbers, r.Int63()>>r.Intn(63), -r.Int63()>>r.Intn(63))
	}
	for _, a := range numbers {
		for _, b := range numbers {
			p, q := max(a, math.MinInt64+1), max(b, math.MinInt64+1)
			want := new(big.Int).GCD(nil, nil, new(big.Int).Abs(big.NewInt(p)), new(big.Int).Abs(big.NewInt(q))).Int64()
			if GCD(a, b) != want {
				t.Fatalf("GCD(%d, %d) = %d", a, b, GCD(a, b))
			}
			g, x, y := Extended(a, b)
			sum := new(big.Int).Mul(big.NewInt(p), big.NewInt(x))
			sum.Add(sum, new(big.Int).Mul(big.NewInt(q), big.NewInt(y)))
			if g != want || sum.Cmp(big.NewInt(g)) != 0 {
				t.Fatalf("Extended(%d, %d) = %d, %d, %d", a, b, g, x, y)
			}
			if g > 0 && (absolute(x) > max(1, absolute(b)/g) || absolute(y) > max(1, absolute(a)/g)) {
				t.Fatalf("Extended(%d, %d) = %d, %d, %d: too large", a, b, g, x, y)
			}
		}
	}
	if g, x, y := Extended(0, 0); g != 0 || x != 0 || y != 0 {
		t.Errorf("Extended(0, 0) = %d, %d, %d", g, x, y)
	}
}

func TestExamples(t *testing.T) {
	c, ok, _ := Meet(Class{2, 3}, Class{3, 5})
	if !ok || c != (Class{8, 15}) {
		t.Errorf("Meet = %v", c)
	}
	if n, _ := Next(c, 9); n != 23 || Count(c, -7, 23) != 3 {
		t.Error("Next or Count")
	}
	if s, ok, _ := Solve(6, 4, 10); !ok || s != (Class{4, 5}) {
		t.Errorf("Solve = %v", s)
	}
	if _, ok, e := Solve(6, 3, 10); ok || e != api.OK {
		t.Error("Solve(6, 3, 10)")
	}
}
