package congruence

import (
	"math"
	"math/bits"
)

// mod returns the remainder of n, from 0 to m - 1; m is positive.
func mod(n, m int64) int64 {
	r := n % m
	if r < 0 {
		r += m
	}
	return r
}

// absolute returns |n|, where -2^63 counts as -2^63 + 1.
func absolute(n int64) int64 {
	if n == math.MinInt64 {
		n++
	}
	if n < 0 {
		return -n
	}
	return n
}

// gcd returns the greatest common divisor of two numbers that are not negative.
func gcd(a, b int64) int64 {
	for b != 0 {
		a, b = b, a%b
	}
	return a
}

// mulMod returns a * b modulo m for a and b from 0 to m - 1.
func mulMod(a, b, m int64) int64 {
	high, low := bits.Mul64(uint64(a), uint64(b))
	return int64(bits.Rem64(high, low, uint64(m)))
}

// inverse returns the number from 0 to m - 1 whose product with a is 1 modulo m; a and m have no common divisor.
func inverse(a, m int64) int64 {
	_, x, _ := Extended(mod(a, m), m)
	return mod(x, m)
}
