package exact

import (
	"math"
	"testing"

	"disjoint/bigint"
)

func samples() []Int {
	var l []Int
	for _, n := range []int64{0, 1, -1, 2, -2, 3, 7, -7, 1 << 31, 1<<32 - 1, -1 << 32, 3037000499, 3037000500, 1 << 62, -1 << 62, math.MaxInt64, math.MaxInt64 - 1, math.MinInt64, math.MinInt64 + 1} {
		l = append(l, Of(n))
	}
	for _, s := range []string{"9223372036854775808", "-9223372036854775809", "18446744073709551616", "-340282366920938463463374607431768211456"} {
		x, _ := bigint.Parse(s)
		l = append(l, FromBig(x))
	}
	return l
}

// text also checks that 64 bits are used where they suffice.
func text(t *testing.T, x Int) string {
	t.Helper()
	if x.big != nil {
		if _, ok := bigint.Int64(*x.big); ok || x.n != 0 {
			t.Errorf("%v is small", x)
		}
	}
	return bigint.Format(x.Big())
}

func TestArithmetic(t *testing.T) {
	for _, x := range samples() {
		if text(t, x.Neg()) != bigint.Format(bigint.Neg(x.Big())) || x.Sign() != bigint.Sign(x.Big()) || x.IsZero() != (x.Sign() == 0) || x.IsOne() != (text(t, x) == "1") {
			t.Errorf("unary functions of %s", text(t, x))
		}
		if n, ok := x.Int64(); ok != (x.big == nil) || ok && Of(n).Cmp(x) != 0 || !ok && n != 0 {
			t.Errorf("Int64 of %s", text(t, x))
		}
		if x.Abs().Sign() < 0 || x.Abs().Cmp(x) != 0 && x.Abs().Cmp(x.Neg()) != 0 {
			t.Errorf("Abs(%s)", text(t, x))
		}
		for _, y := range samples() {
			a, b := x.Big(), y.Big()
			if text(t, x.Add(y)) != bigint.Format(bigint.Add(a, b)) || text(t, x.Sub(y)) != bigint.Format(bigint.Sub(a, b)) || text(t, x.Mul(y)) != bigint.Format(bigint.Mul(a, b)) {
				t.Errorf("sum, difference or product of %s and %s", text(t, x), text(t, y))
			}
			q, r, _ := bigint.DivFloor(a, b)
			p, s := x.DivFloor(y)
			if text(t, p) != bigint.Format(q) || text(t, s) != bigint.Format(r) || x.Floor(y).Cmp(p) != 0 {
				t.Errorf("%s divided by %s", text(t, x), text(t, y))
			}
			if text(t, GCD(x, y)) != bigint.Format(bigint.GCD(a, b)) || x.Cmp(y) != bigint.Compare(a, b) {
				t.Errorf("GCD or Cmp of %s and %s", text(t, x), text(t, y))
			}
		}
	}
}

func TestRound(t *testing.T) {
	for x := int64(-20); x <= 20; x++ {
		for y := int64(1); y <= 6; y++ {
			want := int64(math.Floor(float64(x)/float64(y) + 0.5))
			if got := Of(x).Round(Of(y)); got.Cmp(Of(want)) != 0 {
				t.Errorf("Round of %d / %d is %s", x, y, text(t, got))
			}
		}
	}
}

func TestNoSharing(t *testing.T) {
	x := Of(math.MaxInt64).Add(Of(1))
	x.Big().Digits[0] = 5
	b, _ := bigint.Parse("9223372036854775808")
	y := FromBig(b)
	b.Digits[0] = 5
	if text(t, x) != "9223372036854775808" || text(t, y) != "9223372036854775808" {
		t.Error("memory is shared")
	}
}
