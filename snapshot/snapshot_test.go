package snapshot

import (
	"bytes"
	"encoding/binary"
	"math"
	"math/rand"
	"testing"

	"disjoint/api"
	"disjoint/checksum"
	"disjoint/disk"
)

func newDisk(t *testing.T, sectors int) *disk.Disk {
	t.Helper()
	d, e := disk.New(sectors)
	if e != api.OK {
		t.Fatal(e)
	}
	return d
}

func sector(t *testing.T, d *disk.Disk, n int) []byte {
	t.Helper()
	b, e := d.Read(n)
	if e != api.OK {
		t.Fatal(e)
	}
	return b
}

func random(r *rand.Rand, n int) []byte {
	b := make([]byte, n)
	r.Read(b)
	return b
}

func expect(t *testing.T, d *disk.Disk, want []byte, epoch uint32) {
	t.Helper()
	if b, n, e := Read(d); e != api.OK || n != epoch || !bytes.Equal(b, want) {
		t.Fatalf("Read: %d bytes of epoch %d, %d, want %d of %d", len(b), n, e, len(want), epoch)
	}
}

func TestDivide(t *testing.T) {
	for n, want := range map[int]Layout{7: {0, [2]int{1, 2}, [2]int{3, 4}, 1, 5, 2}, 16: {0, [2]int{1, 2}, [2]int{3, 6}, 3, 9, 7}, 10: {0, [2]int{1, 2}, [2]int{3, 4}, 1, 5, 5}, 11: {0, [2]int{1, 2}, [2]int{3, 5}, 2, 7, 4}, 65536: {0, [2]int{1, 2}, [2]int{3, 16386}, 16383, 32769, 32767}} {
		if got, e := Divide(n); got != want || e != api.OK || Capacity(n) != 64*want.Area {
			t.Errorf("Divide(%d) = %v, %d; Capacity %d", n, got, e, Capacity(n))
		}
	}
	for _, n := range []int{6, 0, -1, 65537, math.MaxInt, math.MinInt} {
		if got, e := Divide(n); got != (Layout{}) || e != api.ErrInvalid || Capacity(n) != 0 {
			t.Errorf("Divide(%d) = %v, %d; Capacity %d", n, got, e, Capacity(n))
		}
	}
	for n := 7; n < 200; n++ {
		l, _ := Divide(n)
		if l.Areas[1] != l.Areas[0]+l.Area || l.Log != l.Areas[1]+l.Area || l.Log+l.Count != n || l.Count < 1 {
			t.Errorf("Divide(%d) = %v", n, l)
		}
	}
}

func TestWrite(t *testing.T) {
	d := newDisk(t, 16)
	if _, _, e := Read(d); e != api.ErrNotFound {
		t.Errorf("Read of a new disk: %d", e)
	}
	b := bytes.Repeat([]byte{7}, 70)
	if e := Write(d, 5, b); e != api.OK || d.Writes() != 4 {
		t.Errorf("Write: %d, %d writes", e, d.Writes())
	}
	expect(t, d, b, 5)
	header := make([]byte, 64)
	binary.BigEndian.PutUint32(header, 5)
	binary.BigEndian.PutUint32(header[4:], 70)
	binary.BigEndian.PutUint64(header[8:], checksum.Sum(b))
	root := make([]byte, 64)
	root[0] = 1
	for n, want := range map[int][]byte{0: root, 2: header, 1: make([]byte, 64), 3: make([]byte, 64), 6: b[:64], 7: append(bytes.Clone(b[64:]), make([]byte, 58)...), 8: make([]byte, 64)} {
		if !bytes.Equal(sector(t, d, n), want) {
			t.Errorf("sector %d is %v", n, sector(t, d, n))
		}
	}
	if e := Write(d, 6, []byte{1}); e != api.OK || d.Writes() != 7 || sector(t, d, 0)[0] != 0 || sector(t, d, 3)[0] != 1 {
		t.Errorf("Write: %d, %d writes", e, d.Writes())
	}
	expect(t, d, []byte{1}, 6)
	if e := Write(d, math.MaxUint32, nil); e != api.OK || d.Writes() != 9 {
		t.Errorf("Write: %d, %d writes", e, d.Writes())
	}
	expect(t, d, nil, math.MaxUint32)
	if e := Write(d, math.MaxUint32, nil); e != api.ErrInvalid {
		t.Errorf("Write: %d", e)
	}
}

// The sectors are written in the order: the area, the header, the root.
func TestOrder(t *testing.T) {
	for at, want := range map[int]int{1: 6, 2: 7, 3: 8, 4: 2, 5: 0} {
		d := newDisk(t, 16)
		d.Arm(at, 64)
		if Write(d, 1, bytes.Repeat([]byte{1}, 192)) != api.ErrCrash {
			t.Fatal("no failure")
		}
		d.Restart()
		for _, n := range []int{6, 7, 8, 2, 0} {
			empty := bytes.Equal(sector(t, d, n), make([]byte, 64))
			after := map[int]int{6: 1, 7: 2, 8: 3, 2: 4, 0: 5}[n] > at
			if empty != after {
				t.Errorf("a failure in sector %d: sector %d is written: %v", want, n, !empty)
			}
		}
	}
}

func TestErrors(t *testing.T) {
	small := newDisk(t, 6)
	if e := Write(small, 1, nil); e != api.ErrInvalid {
		t.Errorf("Write: %d", e)
	}
	if b, n, e := Read(small); b != nil || n != 0 || e != api.ErrInvalid {
		t.Errorf("Read: %d", e)
	}
	small.Fail()
	if e := Write(small, 1, nil); e != api.ErrCrash {
		t.Errorf("Write: %d", e)
	}
	if _, _, e := Read(small); e != api.ErrCrash {
		t.Errorf("Read: %d", e)
	}
	d := newDisk(t, 7)
	if e := Write(d, 0, make([]byte, 65)); e != api.ErrInvalid {
		t.Errorf("Write: %d", e)
	}
	if e := Write(d, 1, make([]byte, 65)); e != api.ErrFull || d.Writes() != 0 {
		t.Errorf("Write: %d", e)
	}
	if e := Write(d, 3, make([]byte, 64)); e != api.OK {
		t.Errorf("Write: %d", e)
	}
	for _, epoch := range []uint32{0, 2, 3} {
		if e := Write(d, epoch, make([]byte, 65)); e != api.ErrInvalid {
			t.Errorf("Write of epoch %d: %d", epoch, e)
		}
	}
	for _, c := range []byte{2, 255} {
		root := make([]byte, 64)
		root[0] = c
		d.Write(0, root)
		if e := Write(d, 0, make([]byte, 65)); e != api.ErrChecksum {
			t.Errorf("Write: %d", e)
		}
		if b, n, e := Read(d); b != nil || n != 0 || e != api.ErrChecksum {
			t.Errorf("Read: %d", e)
		}
	}
	// The other slot has no version.
	d.Write(0, make([]byte, 64))
	if _, _, e := Read(d); e != api.ErrNotFound {
		t.Errorf("Read: %d", e)
	}
}

func TestDamage(t *testing.T) {
	r := rand.New(rand.NewSource(69))
	b := random(r, 150)
	build := func() *disk.Disk {
		d := newDisk(t, 16)
		Write(d, 1, []byte{1})
		Write(d, 2, []byte{2})
		Write(d, 3, b)
		return d
	}
	for at := range 150 {
		d := build()
		s := sector(t, d, 6+at/64)
		s[at%64] ^= byte(1 + r.Intn(255))
		d.Write(6+at/64, s)
		if x, n, e := Read(d); x != nil || n != 0 || e != api.ErrChecksum {
			t.Fatalf("damage at %d: %d", at, e)
		}
	}
	for at := range 64 {
		d := build()
		h := sector(t, d, 2)
		h[at] ^= 1
		d.Write(2, h)
		_, _, e := Read(d)
		// The bytes of the epoch are not protected, and those behind the checksum do not matter.
		if want := at >= 4 && at < 16; want != (e == api.ErrChecksum) {
			t.Fatalf("damage of the header at %d: %d", at, e)
		}
	}
	d := build()
	s := sector(t, d, 8)
	s[63] = 9
	d.Write(8, s)
	root := sector(t, d, 0)
	root[5] = 9
	d.Write(0, root)
	expect(t, d, b, 3)
}

// After a failure at any time the old or the new version is read.
func TestFailures(t *testing.T) {
	r := rand.New(rand.NewSource(70))
	for range 3000 {
		d := newDisk(t, 16+r.Intn(5))
		epoch := uint32(0)
		var old []byte
		for range r.Intn(4) {
			epoch += 1 + uint32(r.Intn(3))
			old = random(r, r.Intn(192))
			if Write(d, epoch, old) != api.OK {
				t.Fatal("Write")
			}
		}
		b := random(r, r.Intn(192))
		writes := (len(b)+63)/64 + 2
		at, cut := 1+r.Intn(writes+1), r.Intn(65)
		d.Arm(at, cut)
		e := Write(d, epoch+1, b)
		if (e == api.ErrCrash) != (at <= writes) {
			t.Fatalf("Write: %d", e)
		}
		d.Arm(0, 0)
		d.Restart()
		// The root is written by its first byte.
		if at > writes || at == writes && cut > 0 {
			expect(t, d, b, epoch+1)
		} else if epoch == 0 {
			if _, _, e := Read(d); e != api.ErrNotFound {
				t.Fatalf("Read: %d", e)
			}
		} else {
			expect(t, d, old, epoch)
		}
		// The next version can be written.
		next := random(r, r.Intn(192))
		if Write(d, epoch+2, next) != api.OK {
			t.Fatal("Write after a failure")
		}
		expect(t, d, next, epoch+2)
	}
}

func TestNoSharing(t *testing.T) {
	d := newDisk(t, 16)
	b := []byte{1, 2, 3}
	Write(d, 1, b)
	b[0] = 9
	c, _, _ := Read(d)
	c[1] = 9
	expect(t, d, []byte{1, 2, 3}, 1)
}
