package bigint

import (
	"math"
	"math/big"
	"math/rand"
	"reflect"
	"slices"
	"strings"
	"testing"

	"disjoint/api"
)

// toBig is the standard library's integer with the same value.
func toBig(x api.Big) *big.Int {
	r := new(big.Int)
	for i := len(x.Digits) - 1; i >= 0; i-- {
		r.Lsh(r, 32).Or(r, big.NewInt(int64(x.Digits[i])))
	}
	if x.Negative {
		r.Neg(r)
	}
	return r
}

func fromBig(n *big.Int) api.Big {
	m := new(big.Int).Abs(n)
	var d []uint32
	for m.Sign() > 0 {
		d = append(d, uint32(m.Uint64()))
		m.Rsh(m, 32)
	}
	return api.Big{Negative: n.Sign() < 0, Digits: d}
}

// same reports whether x is the normal representation of n.
func same(x api.Big, n *big.Int) bool {
	want := fromBig(n)
	return x.Negative == want.Negative && slices.Equal(x.Digits, want.Digits)
}

// samples are integers of many sizes, some of them not normal.
func samples() []api.Big {
	r := rand.New(rand.NewSource(1))
	l := []api.Big{{}, {Negative: true}, {Negative: true, Digits: []uint32{0, 0}}, {Digits: []uint32{5, 0}}, {Negative: true, Digits: []uint32{7, 0, 0}}}
	special := []uint32{0, 1, 2, 1<<31 - 1, 1 << 31, 1<<31 + 1, math.MaxUint32, math.MaxUint32 - 1}
	for n := range 7 {
		for range 12 {
			d := make([]uint32, n)
			for i := range d {
				d[i] = special[r.Intn(len(special))]
				if r.Intn(3) == 0 {
					d[i] = r.Uint32()
				}
			}
			l = append(l, api.Big{Negative: r.Intn(2) == 0, Digits: d})
		}
	}
	for _, n := range []int64{1, -1, 2, -2, 12, -18, math.MaxInt64, math.MinInt64, math.MinInt64 + 1} {
		l = append(l, fromBig(big.NewInt(n)))
	}
	return l
}

func copyOf(x api.Big) api.Big {
	return api.Big{Negative: x.Negative, Digits: slices.Clone(x.Digits)}
}

func TestUnary(t *testing.T) {
	for _, x := range samples() {
		kept := copyOf(x)
		n := toBig(x)
		if !same(Normal(x), n) || !same(Neg(x), new(big.Int).Neg(n)) || Sign(x) != n.Sign() {
			t.Errorf("Normal, Neg or Sign of %v", x)
		}
		v, ok := Int64(x)
		if ok != n.IsInt64() || ok && v != n.Int64() || !ok && v != 0 {
			t.Errorf("Int64(%v) = %d, %v", x, v, ok)
		}
		s := Format(x)
		if s != n.String() {
			t.Errorf("Format(%v) = %q", x, s)
		}
		if y, e := Parse(s); e != api.OK || !same(y, n) {
			t.Errorf("Parse(%q) = %v, %d", s, y, e)
		}
		if !reflect.DeepEqual(x, kept) {
			t.Errorf("argument changed: %v", kept)
		}
	}
}

func TestBinary(t *testing.T) {
	l := samples()
	for _, a := range l {
		for _, b := range l {
			keptA, keptB := copyOf(a), copyOf(b)
			m, n := toBig(a), toBig(b)
			if Compare(a, b) != m.Cmp(n) {
				t.Errorf("Compare(%v, %v) = %d", a, b, Compare(a, b))
			}
			if !same(Add(a, b), new(big.Int).Add(m, n)) || !same(Sub(a, b), new(big.Int).Sub(m, n)) || !same(Mul(a, b), new(big.Int).Mul(m, n)) {
				t.Errorf("sum, difference or product of %v, %v", a, b)
			}
			if !same(GCD(a, b), new(big.Int).GCD(nil, nil, new(big.Int).Abs(m), new(big.Int).Abs(n))) {
				t.Errorf("GCD(%v, %v) = %v", a, b, GCD(a, b))
			}
			checkDivision(t, a, b)
			if !reflect.DeepEqual(a, keptA) || !reflect.DeepEqual(b, keptB) {
				t.Fatalf("arguments changed: %v, %v", keptA, keptB)
			}
		}
	}
}

func checkDivision(t *testing.T, a, b api.Big) {
	m, n := toBig(a), toBig(b)
	q, r, ok := DivFloor(a, b)
	if n.Sign() == 0 {
		if ok || len(q.Digits) != 0 || len(r.Digits) != 0 || q.Negative || r.Negative {
			t.Errorf("DivFloor(%v, 0) = %v, %v, %v", a, q, r, ok)
		}
		return
	}
	// Mod of the standard library is never negative.
	rem := new(big.Int).Mod(m, n)
	if rem.Sign() != 0 && n.Sign() < 0 {
		rem.Add(rem, n)
	}
	quo := new(big.Int).Div(new(big.Int).Sub(m, rem), n)
	if !ok || !same(q, quo) || !same(r, rem) {
		t.Errorf("DivFloor(%v, %v) = %v, %v, %v", a, b, q, r, ok)
	}
}

func TestLongDivision(t *testing.T) {
	r := rand.New(rand.NewSource(2))
	special := []uint32{0, 1, 1 << 31, math.MaxUint32, math.MaxUint32 - 1}
	random := func(n int) api.Big {
		d := make([]uint32, n)
		for i := range d {
			d[i] = special[r.Intn(len(special))]
		}
		return api.Big{Digits: d}
	}
	for range 20000 {
		checkDivision(t, random(r.Intn(9)), random(1+r.Intn(5)))
	}
}

func TestOf(t *testing.T) {
	for _, n := range []int64{0, 1, -1, 1<<32 - 1, 1 << 32, -1 << 32, math.MaxInt64, math.MinInt64} {
		if !same(Of(n), big.NewInt(n)) {
			t.Errorf("Of(%d) = %v", n, Of(n))
		}
		if v, ok := Int64(Of(n)); v != n || !ok {
			t.Errorf("Int64(Of(%d)) = %d, %v", n, v, ok)
		}
	}
	for _, s := range []string{"9223372036854775808", "-9223372036854775809", "18446744073709551616"} {
		x, _ := Parse(s)
		if v, ok := Int64(x); v != 0 || ok {
			t.Errorf("Int64 of %s = %d, %v", s, v, ok)
		}
	}
}

func TestParse(t *testing.T) {
	for _, s := range []string{"", "-", "-0", "00", "007", "-07", "+1", " 1", "1 ", "1.0", "0x1", "--1", "1-", "a", "1234567890123a", "\u0661"} {
		if x, e := Parse(s); e != api.ErrSyntax || x.Negative || len(x.Digits) != 0 {
			t.Errorf("Parse(%q) = %v, %d", s, x, e)
		}
	}
	x, e := Parse("18446744073709551616")
	if e != api.OK || x.Negative || !slices.Equal(x.Digits, []uint32{0, 0, 1}) {
		t.Errorf("Parse(2^64) = %v, %d", x, e)
	}
	long := "-1" + strings.Repeat("0", 2000)
	if x, e := Parse(long); e != api.OK || Format(x) != long {
		t.Error("a long number")
	}
}

func TestExamples(t *testing.T) {
	for _, c := range [][4]int64{{-7, 2, -4, 1}, {7, -2, -4, -1}, {-7, -2, 3, -1}, {7, 2, 3, 1}, {6, -3, -2, 0}} {
		q, r, ok := DivFloor(Of(c[0]), Of(c[1]))
		if !ok || Compare(q, Of(c[2])) != 0 || Compare(r, Of(c[3])) != 0 {
			t.Errorf("DivFloor(%d, %d) = %s, %s", c[0], c[1], Format(q), Format(r))
		}
	}
	if Format(GCD(Of(-12), Of(18))) != "6" || Format(GCD(Of(0), Of(-4))) != "4" || Sign(GCD(Of(0), Of(0))) != 0 {
		t.Error("GCD")
	}
}

// Changing a result does not change an argument or another result.
func TestNoSharing(t *testing.T) {
	spoil := func(x api.Big) {
		for i := range x.Digits {
			x.Digits[i]++
		}
	}
	a := api.Big{Digits: []uint32{1, 2, 3, 0}}
	zero, one := api.Big{}, Of(1)
	b := api.Big{Digits: []uint32{9, 9}}
	q, r, _ := DivFloor(a, one)
	small, rest, _ := DivFloor(b, a)
	for _, x := range []api.Big{Normal(a), Neg(a), Add(a, zero), Add(zero, a), Sub(a, zero), Mul(a, one), GCD(a, zero), GCD(zero, a), GCD(a, a), q, r, small, rest} {
		spoil(x)
	}
	if !slices.Equal(a.Digits, []uint32{1, 2, 3, 0}) || !slices.Equal(b.Digits, []uint32{9, 9}) || !slices.Equal(one.Digits, []uint32{1}) {
		t.Error("a result shares memory with an argument")
	}
}

func TestRing(t *testing.T) {
	l := samples()[:40]
	equal := func(a, b api.Big) bool { return reflect.DeepEqual(Normal(a), Normal(b)) }
	for _, a := range l {
		for _, b := range l {
			if !equal(Add(a, b), Add(b, a)) || !equal(Mul(a, b), Mul(b, a)) {
				t.Errorf("not commutative: %v, %v", a, b)
			}
			for _, c := range l[:20] {
				if !equal(Add(Add(a, b), c), Add(a, Add(b, c))) || !equal(Mul(Mul(a, b), c), Mul(a, Mul(b, c))) {
					t.Errorf("not associative: %v, %v, %v", a, b, c)
				}
				if !equal(Mul(a, Add(b, c)), Add(Mul(a, b), Mul(a, c))) {
					t.Errorf("not distributive: %v, %v, %v", a, b, c)
				}
			}
		}
	}
}
