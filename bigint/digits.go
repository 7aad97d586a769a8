package bigint

import (
	"math/bits"

	"disjoint/api"
)

// The functions of this file compute with absolute values: digits without leading zeros.

// trim returns digits without leading zeros.
func trim(d []uint32) []uint32 {
	n := len(d)
	for n > 0 && d[n-1] == 0 {
		n--
	}
	return d[:n]
}

// signed returns the normal integer with these digits, which become part of it.
func signed(negative bool, d []uint32) api.Big {
	d = trim(d)
	if len(d) == 0 {
		return api.Big{}
	}
	return api.Big{Negative: negative, Digits: d}
}

func compare(a, b []uint32) int {
	if len(a) != len(b) {
		if len(a) < len(b) {
			return -1
		}
		return 1
	}
	for i := len(a) - 1; i >= 0; i-- {
		if a[i] != b[i] {
			if a[i] < b[i] {
				return -1
			}
			return 1
		}
	}
	return 0
}

func add(a, b []uint32) []uint32 {
	if len(a) < len(b) {
		a, b = b, a
	}
	r := make([]uint32, len(a)+1)
	var carry uint64
	for i := range a {
		carry += uint64(a[i])
		if i < len(b) {
			carry += uint64(b[i])
		}
		r[i] = uint32(carry)
		carry >>= 32
	}
	r[len(a)] = uint32(carry)
	return r
}

// sub returns a - b; a is not less than b.
func sub(a, b []uint32) []uint32 {
	r := make([]uint32, len(a))
	var borrow uint64
	for i := range a {
		d := uint64(a[i]) - borrow
		if i < len(b) {
			d -= uint64(b[i])
		}
		r[i] = uint32(d)
		borrow = d >> 63
	}
	return r
}

func mul(a, b []uint32) []uint32 {
	r := make([]uint32, len(a)+len(b))
	for i, x := range a {
		var carry uint64
		for j, y := range b {
			carry += uint64(x)*uint64(y) + uint64(r[i+j])
			r[i+j] = uint32(carry)
			carry >>= 32
		}
		r[i+len(b)] = uint32(carry)
	}
	return r
}

// div returns the quotient and the remainder; b is not zero.
func div(a, b []uint32) ([]uint32, []uint32) {
	if compare(a, b) < 0 {
		return nil, append([]uint32(nil), a...)
	}
	if len(b) == 1 {
		q, r := divDigit(a, b[0])
		return q, []uint32{r}
	}
	// The divisor's first bit must be set for the estimates of the digits to be off by at most two.
	s := uint(bits.LeadingZeros32(b[len(b)-1]))
	v := shiftLeft(b, s)[:len(b)]
	u := shiftLeft(a, s)
	q := make([]uint32, len(a)-len(b)+1)
	for j := len(q) - 1; j >= 0; j-- {
		q[j] = divStep(u[j:j+len(v)+1], v)
	}
	return q, shiftRight(u[:len(v)], s)
}

func divDigit(a []uint32, b uint32) ([]uint32, uint32) {
	q := make([]uint32, len(a))
	var r uint64
	for i := len(a) - 1; i >= 0; i-- {
		r = r<<32 | uint64(a[i])
		q[i] = uint32(r / uint64(b))
		r %= uint64(b)
	}
	return q, uint32(r)
}

// divStep reduces u, which has one digit more than v, modulo v, and returns the quotient, a single digit.
func divStep(u, v []uint32) uint32 {
	n := len(v)
	top := uint64(u[n])<<32 | uint64(u[n-1])
	q := top / uint64(v[n-1])
	r := top % uint64(v[n-1])
	for q >= 1<<32 || q*uint64(v[n-2]) > r<<32|uint64(u[n-2]) {
		q--
		r += uint64(v[n-1])
		if r >= 1<<32 {
			break
		}
	}
	if subMultiple(u, v, q) {
		q--
		addBack(u, v)
	}
	return uint32(q)
}

// subMultiple subtracts q times v from u, modulo the size of u, and reports whether the difference is negative.
func subMultiple(u, v []uint32, q uint64) bool {
	var carry, borrow uint64
	for i := range u {
		if i < len(v) {
			carry += q * uint64(v[i])
		}
		d := uint64(u[i]) - carry&(1<<32-1) - borrow
		u[i] = uint32(d)
		borrow = d >> 63
		carry >>= 32
	}
	return borrow != 0
}

func addBack(u, v []uint32) {
	var carry uint64
	for i := range u {
		carry += uint64(u[i])
		if i < len(v) {
			carry += uint64(v[i])
		}
		u[i] = uint32(carry)
		carry >>= 32
	}
}

// shiftLeft returns a times 2^s with one digit more than a.
func shiftLeft(a []uint32, s uint) []uint32 {
	r := make([]uint32, len(a)+1)
	var carry uint64
	for i, x := range a {
		carry |= uint64(x) << s
		r[i] = uint32(carry)
		carry >>= 32
	}
	r[len(a)] = uint32(carry)
	return r
}

func shiftRight(a []uint32, s uint) []uint32 {
	r := make([]uint32, len(a))
	var carry uint64
	for i := len(a) - 1; i >= 0; i-- {
		carry = carry<<32 | uint64(a[i])
		r[i] = uint32(carry >> s)
	}
	return r
}
