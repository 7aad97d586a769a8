package disk

import (
	"bytes"
	"math"
	"math/rand"
	"testing"

	"disjoint/api"
)

func fill(c byte) []byte { return bytes.Repeat([]byte{c}, 64) }

func expect(t *testing.T, d *Disk, sector int, want []byte) {
	t.Helper()
	if b, e := d.Read(sector); e != api.OK || !bytes.Equal(b, want) {
		t.Errorf("sector %d: %v, %d", sector, b, e)
	}
}

func TestNew(t *testing.T) {
	for _, n := range []int{0, -1, 65537, math.MaxInt, math.MinInt} {
		if d, e := New(n); d != nil || e != api.ErrInvalid {
			t.Errorf("New(%d): %v, %d", n, d, e)
		}
	}
	for _, n := range []int{1, 2, 65536} {
		d, e := New(n)
		if e != api.OK || d.Sectors() != n || d.Failed() || d.Writes() != 0 {
			t.Errorf("New(%d): %d", n, e)
		}
		expect(t, d, 0, fill(0))
		expect(t, d, n-1, fill(0))
	}
}

func TestExample(t *testing.T) {
	d, _ := New(2)
	d.Arm(2, 3)
	if d.Write(0, fill(9)) != api.OK || d.Write(1, fill(7)) != api.ErrCrash || !d.Failed() {
		t.Error("Write")
	}
	if b, e := d.Read(0); b != nil || e != api.ErrCrash {
		t.Errorf("Read: %v, %d", b, e)
	}
	d.Restart()
	expect(t, d, 0, fill(9))
	expect(t, d, 1, append(fill(7)[:3:3], fill(0)[3:]...))
	if d.Writes() != 1 || d.Failed() {
		t.Errorf("%d writes", d.Writes())
	}
}

func TestErrors(t *testing.T) {
	d, _ := New(3)
	for i, c := range []struct {
		sector int
		b      []byte
	}{{-1, fill(1)}, {3, fill(1)}, {math.MaxInt, fill(1)}, {0, nil}, {0, fill(1)[:63]}, {0, append(fill(1), 1)}} {
		if e := d.Write(c.sector, c.b); e != api.ErrInvalid {
			t.Errorf("case %d: Write = %d", i, e)
		}
	}
	for _, n := range []int{-1, 3, math.MinInt} {
		if b, e := d.Read(n); b != nil || e != api.ErrInvalid {
			t.Errorf("Read(%d): %v, %d", n, b, e)
		}
	}
	d.Fail()
	if d.Write(9, nil) != api.ErrCrash || d.Write(0, fill(1)) != api.ErrCrash {
		t.Error("Write after a failure")
	}
	if _, e := d.Read(9); e != api.ErrCrash {
		t.Errorf("Read after a failure: %d", e)
	}
	if d.Writes() != 0 || !d.Failed() {
		t.Error("the state after a failure")
	}
	d.Restart()
	expect(t, d, 0, fill(0))
}

func TestArm(t *testing.T) {
	for _, c := range []struct{ bytes, want int }{{-5, 0}, {0, 0}, {1, 1}, {63, 63}, {64, 64}, {65, 64}, {math.MaxInt, 64}, {math.MinInt, 0}} {
		d, _ := New(1)
		d.Write(0, fill(1))
		d.Arm(1, c.bytes)
		if d.Write(0, fill(2)) != api.ErrCrash || d.Writes() != 1 {
			t.Fatal("the write is not torn")
		}
		d.Restart()
		expect(t, d, 0, append(fill(2)[:c.want:c.want], fill(1)[c.want:]...))
		// The disk is no longer armed.
		if d.Write(0, fill(3)) != api.OK {
			t.Error("the disk is still armed")
		}
	}
	d, _ := New(2)
	d.Arm(1, 5)
	d.Arm(0, 5)
	if d.Write(0, fill(1)) != api.OK {
		t.Error("Arm(0)")
	}
	d.Arm(1, 5)
	d.Arm(-3, 5)
	if d.Write(0, fill(1)) != api.OK {
		t.Error("Arm(-3)")
	}
	d.Arm(1, 5)
	d.Arm(3, 6)
	if d.Write(0, fill(1)) != api.OK || d.Write(9, fill(1)) != api.ErrInvalid || d.Write(0, nil) != api.ErrInvalid || d.Write(0, fill(1)) != api.OK || d.Write(0, fill(2)) != api.ErrCrash {
		t.Error("the third write with valid arguments is not torn")
	}
	d.Arm(1, 5)
	d.Restart()
	if d.Write(0, fill(1)) != api.OK {
		t.Error("Arm has an effect while the disk has failed")
	}
	d.Arm(1, 5)
	d.Fail()
	d.Restart()
	if d.Write(0, fill(1)) != api.OK {
		t.Error("the disk is armed after a failure")
	}
	d.Arm(1, 5)
	d.Restart()
	if d.Write(0, fill(1)) != api.ErrCrash {
		t.Error("Restart has an effect on a disk that has not failed")
	}
}

// A complete write is never lost, and a failure changes at most one sector.
func TestRandom(t *testing.T) {
	r := rand.New(rand.NewSource(66))
	for range 200 {
		d, _ := New(5)
		contents := make([][]byte, 5)
		for i := range contents {
			contents[i] = fill(0)
		}
		writes := 0
		for range 50 {
			at, cut := r.Intn(4)+1, r.Intn(65)
			d.Arm(at, cut)
			for k := 1; !d.Failed(); k++ {
				n := r.Intn(5)
				b := make([]byte, 64)
				r.Read(b)
				e := d.Write(n, b)
				if (e == api.ErrCrash) != (k == at) {
					t.Fatalf("write %d of %d: %d", k, at, e)
				}
				if e == api.OK {
					copy(contents[n], b)
					writes++
				} else {
					copy(contents[n][:cut], b)
				}
			}
			if r.Intn(2) == 0 {
				d.Fail()
			}
			d.Restart()
			for n, want := range contents {
				expect(t, d, n, want)
			}
		}
		if d.Writes() != writes {
			t.Fatalf("%d writes, want %d", d.Writes(), writes)
		}
	}
}

func TestNoSharing(t *testing.T) {
	d, _ := New(1)
	b := fill(1)
	d.Write(0, b)
	b[0] = 9
	c, _ := d.Read(0)
	c[1] = 9
	expect(t, d, 0, fill(1))
}
