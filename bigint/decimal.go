package bigint

import (
	"strconv"
	"strings"

	"disjoint/api"
)

const (
	chunk      = 9 // decimal digits that fit into one digit
	chunkPower = 1000000000
)

// Format returns x in decimal.
func Format(x api.Big) string {
	d := trim(x.Digits)
	if len(d) == 0 {
		return "0"
	}
	var chunks []string
	for len(d) > 0 {
		q, r := divDigit(d, chunkPower)
		d = trim(q)
		s := strconv.FormatUint(uint64(r), 10)
		if len(d) > 0 {
			s = strings.Repeat("0", chunk-len(s)) + s
		}
		chunks = append(chunks, s)
	}
	var b strings.Builder
	if x.Negative {
		b.WriteByte('-')
	}
	for i := len(chunks) - 1; i >= 0; i-- {
		b.WriteString(chunks[i])
	}
	return b.String()
}

// Parse returns the integer with a decimal representation.
func Parse(s string) (api.Big, api.Errno) {
	t, negative := strings.CutPrefix(s, "-")
	if !decimal(t) || negative && t == "0" {
		return api.Big{}, api.ErrSyntax
	}
	var d []uint32
	for len(t) > 0 {
		n := len(t) % chunk
		if n == 0 {
			n = chunk
		}
		d = trim(timesPlus(d, chunkPower, number(t[:n])))
		t = t[n:]
	}
	return signed(negative, d), api.OK
}

// decimal reports whether t consists of decimal digits without leading zeros.
func decimal(t string) bool {
	if t == "" || t[0] == '0' && len(t) > 1 {
		return false
	}
	for i := range len(t) {
		if t[i] < '0' || t[i] > '9' {
			return false
		}
	}
	return true
}

func number(digits string) uint32 {
	var n uint32
	for i := range len(digits) {
		n = 10*n + uint32(digits[i]-'0')
	}
	return n
}

// timesPlus returns d * m + n, and may change d.
func timesPlus(d []uint32, m, n uint32) []uint32 {
	carry := uint64(n)
	for i, x := range d {
		carry += uint64(x) * uint64(m)
		d[i] = uint32(carry)
		carry >>= 32
	}
	return append(d, uint32(carry))
}
