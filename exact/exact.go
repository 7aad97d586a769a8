// Package exact computes with integers of any size, most of which are small: it uses 64 bits as long as they suffice, and layer bigint otherwise.
package exact

import (
	"math"
	"math/bits"

	"disjoint/api"
	"disjoint/bigint"
)

// Int is an integer. The zero value is 0.
type Int struct {
	n   int64
	big *api.Big // only used, and then normal, if the integer does not fit into n
}

// Of returns an integer.
func Of(n int64) Int { return Int{n: n} }

// FromBig returns the integer that x represents.
func FromBig(x api.Big) Int {
	if n, ok := bigint.Int64(x); ok {
		return Of(n)
	}
	normal := bigint.Normal(x)
	return Int{big: &normal}
}

// Big returns the normal representation of x.
func (x Int) Big() api.Big {
	if x.big != nil {
		return bigint.Normal(*x.big)
	}
	return bigint.Of(x.n)
}

// lend returns a representation of x that is not changed, and not part of a result.
func (x Int) lend() api.Big {
	if x.big != nil {
		return *x.big
	}
	return bigint.Of(x.n)
}

func (x Int) small() bool { return x.big == nil }

// IsZero reports whether x is 0.
func (x Int) IsZero() bool { return x.n == 0 && x.big == nil }

// IsOne reports whether x is 1.
func (x Int) IsOne() bool { return x.n == 1 && x.big == nil }

// Sign returns -1, 0 or 1.
func (x Int) Sign() int {
	switch {
	case x.big != nil:
		return bigint.Sign(*x.big)
	case x.n < 0:
		return -1
	case x.n > 0:
		return 1
	}
	return 0
}

// Cmp returns -1, 0 or 1 if x is less than, equal to or greater than y.
func (x Int) Cmp(y Int) int {
	if x.small() && y.small() {
		switch {
		case x.n < y.n:
			return -1
		case x.n > y.n:
			return 1
		}
		return 0
	}
	return bigint.Compare(x.lend(), y.lend())
}

// Neg returns -x.
func (x Int) Neg() Int {
	if x.small() && x.n != math.MinInt64 {
		return Of(-x.n)
	}
	return FromBig(bigint.Neg(x.lend()))
}

// Abs returns the absolute value of x.
func (x Int) Abs() Int {
	if x.Sign() < 0 {
		return x.Neg()
	}
	return x
}

// Add returns x + y.
func (x Int) Add(y Int) Int {
	if x.small() && y.small() {
		sum := x.n + y.n
		if (sum > x.n) == (y.n > 0) {
			return Of(sum)
		}
	}
	return FromBig(bigint.Add(x.lend(), y.lend()))
}

// Sub returns x - y.
func (x Int) Sub(y Int) Int {
	if x.small() && y.small() {
		difference := x.n - y.n
		if (difference < x.n) == (y.n > 0) {
			return Of(difference)
		}
	}
	return FromBig(bigint.Sub(x.lend(), y.lend()))
}

func magnitude(n int64) uint64 {
	if n < 0 {
		return -uint64(n)
	}
	return uint64(n)
}

// Mul returns the product of x and y.
func (x Int) Mul(y Int) Int {
	if x.small() && y.small() {
		high, low := bits.Mul64(magnitude(x.n), magnitude(y.n))
		if high == 0 && low <= math.MaxInt64 {
			if (x.n < 0) != (y.n < 0) {
				return Of(-int64(low))
			}
			return Of(int64(low))
		}
	}
	return FromBig(bigint.Mul(x.lend(), y.lend()))
}

// DivFloor returns the quotient, rounded toward negative infinity, and the remainder; zeros if y is 0.
func (x Int) DivFloor(y Int) (Int, Int) {
	if x.small() && y.small() && y.n != 0 && (x.n != math.MinInt64 || y.n != -1) {
		q, r := x.n/y.n, x.n%y.n
		if r != 0 && (r < 0) != (y.n < 0) {
			q--
			r += y.n
		}
		return Of(q), Of(r)
	}
	q, r, _ := bigint.DivFloor(x.lend(), y.lend())
	return FromBig(q), FromBig(r)
}

// Floor returns the quotient of x and y, rounded toward negative infinity.
func (x Int) Floor(y Int) Int {
	q, _ := x.DivFloor(y)
	return q
}

// Round returns the integer that is nearest to the quotient of x and y, which is positive.
func (x Int) Round(y Int) Int {
	return x.Add(x).Add(y).Floor(y.Add(y))
}

// GCD returns the greatest common divisor, which is not negative.
func GCD(x, y Int) Int {
	for !y.IsZero() {
		_, r := x.DivFloor(y)
		x, y = y, r
	}
	return x.Abs()
}

// Int64 returns x, and whether it fits into 64 bits.
func (x Int) Int64() (int64, bool) { return x.n, x.small() }
