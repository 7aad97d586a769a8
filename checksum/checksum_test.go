package checksum

import (
	"bytes"
	"math/rand"
	"testing"

	"disjoint/api"
)

// slow computes the checksum as the document defines it.
func slow(b []byte) uint64 {
	r := ^uint64(0)
	for _, x := range b {
		r ^= uint64(x)
		for range 8 {
			out := r & 1
			r >>= 1
			if out == 1 {
				r ^= 0xC96C5795D7870F42
			}
		}
	}
	return ^r
}

func random(r *rand.Rand, n int) []byte {
	b := make([]byte, n)
	r.Read(b)
	return b
}

func TestKnownSums(t *testing.T) {
	for s, want := range map[string]string{"": "0000000000000000", "\xff": "ff00000000000000", "\xff\xff\xff\xff\xff\xff\xff\xff": "ffffffffffffffff", "\x7f": "366c5795d7870f42", "123456789": "995dc9bbdf1939fa"} {
		if got := Format(Sum([]byte(s))); got != want {
			t.Errorf("the checksum of %q is %s", s, got)
		}
	}
	for sum, want := range map[uint64]string{0: "0000000000000000", 0xabc: "0000000000000abc", ^uint64(0): "ffffffffffffffff", 1 << 63: "8000000000000000"} {
		if Format(sum) != want {
			t.Errorf("Format(%d) = %s", sum, Format(sum))
		}
	}
}

func TestSums(t *testing.T) {
	r := rand.New(rand.NewSource(7))
	for c := range 256 {
		if Sum([]byte{byte(c)}) != slow([]byte{byte(c)}) {
			t.Errorf("the byte %d", c)
		}
	}
	for n := range 200 {
		b := random(r, n)
		if Sum(b) != slow(b) {
			t.Fatalf("Sum(%x)", b)
		}
		for k := range n + 1 {
			if Update(Sum(b[:k]), b[k:]) != slow(b) {
				t.Fatalf("Update of %x at %d", b, k)
			}
		}
	}
}

func TestAppendAndCheck(t *testing.T) {
	r := rand.New(rand.NewSource(8))
	for n := range 40 {
		b := random(r, n)
		kept := bytes.Clone(b)
		spare := append(make([]byte, 0, n+20), b...)
		a := Append(spare)
		want := bytes.Clone(b)
		for i := range 8 {
			want = append(want, byte(slow(b)>>(8*i)))
		}
		if !bytes.Equal(a, want) {
			t.Fatalf("Append(%x) = %x", b, a)
		}
		c, e := Check(a)
		if e != api.OK || !bytes.Equal(c, b) {
			t.Fatalf("Check(%x) = %x, %d", a, c, e)
		}
		for i := range c {
			c[i]++
		}
		for i := range a {
			for bit := range 8 {
				a[i] ^= 1 << bit
				if c, e := Check(a); c != nil || e != api.ErrChecksum {
					t.Fatalf("a changed bit is not found in %x", a)
				}
				a[i] ^= 1 << bit
			}
			a[i]++
		}
		if !bytes.Equal(spare, kept) || !bytes.Equal(spare[:cap(spare)][n:], make([]byte, cap(spare)-n)) {
			t.Fatal("Append changed its argument or shares memory with it")
		}
	}
	if a := Append(nil); !bytes.Equal(a, make([]byte, 8)) {
		t.Errorf("Append(nil) = %x", a)
	}
	for n := range 8 {
		if c, e := Check(make([]byte, n)); c != nil || e != api.ErrSyntax {
			t.Errorf("Check of %d bytes = %x, %d", n, c, e)
		}
	}
}

func TestCheckSharesNothing(t *testing.T) {
	a := Append([]byte("abc"))
	b, _ := Check(a)
	b[0] = 'x'
	if a[0] != 'a' {
		t.Error("the result of Check shares memory with its argument")
	}
}

// A change of bits within eight consecutive bytes always changes the checksum.
func TestBursts(t *testing.T) {
	r := rand.New(rand.NewSource(9))
	for range 3000 {
		b := random(r, 8+r.Intn(60))
		c := bytes.Clone(b)
		at := r.Intn(len(b) - 7)
		for i := range 8 {
			c[at+i] ^= byte(r.Intn(256) & r.Intn(256))
		}
		if !bytes.Equal(b, c) && Sum(b) == Sum(c) {
			t.Fatalf("%x and %x have the same checksum", b, c)
		}
	}
}

func TestLinear(t *testing.T) {
	r := rand.New(rand.NewSource(10))
	for range 1000 {
		n := r.Intn(50)
		a, b, c, x := random(r, n), random(r, n), random(r, n), make([]byte, n)
		for i := range x {
			x[i] = a[i] ^ b[i] ^ c[i]
		}
		if Sum(x) != Sum(a)^Sum(b)^Sum(c) {
			t.Fatalf("%x, %x, %x", a, b, c)
		}
	}
}
