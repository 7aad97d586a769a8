package wal

import (
	"bytes"
	"math"
	"math/rand"
	"slices"
	"testing"

	"disjoint/api"
	"disjoint/disk"
)

func newDisk(t *testing.T, sectors int) *disk.Disk {
	t.Helper()
	d, e := disk.New(sectors)
	if e != api.OK {
		t.Fatal(e)
	}
	return d
}

func newLog(t *testing.T, d *disk.Disk, first, count int, epoch uint32) *Log {
	t.Helper()
	l, e := New(d, first, count, epoch)
	if e != api.OK {
		t.Fatal(e)
	}
	return l
}

func expect(t *testing.T, d *disk.Disk, first, count int, epoch uint32, want [][]byte) {
	t.Helper()
	got, e := Scan(d, first, count, epoch)
	if e != api.OK || !slices.EqualFunc(got, want, bytes.Equal) {
		t.Fatalf("Scan: %d records, %d, want %d", len(got), e, len(want))
	}
}

func sector(t *testing.T, d *disk.Disk, n int) []byte {
	t.Helper()
	b, e := d.Read(n)
	if e != api.OK {
		t.Fatal(e)
	}
	return b
}

func random(r *rand.Rand, n int) []byte {
	b := make([]byte, n)
	r.Read(b)
	return b
}

func TestFormat(t *testing.T) {
	d := newDisk(t, 4)
	l := newLog(t, d, 1, 2, 0x01020304)
	if l.Append([]byte{7, 8}) != api.OK || d.Writes() != 1 {
		t.Fatal("Append")
	}
	want := make([]byte, 64)
	copy(want, []byte{0, 0, 0, 2, 7, 8})
	copy(want[59:], []byte{6, 1, 2, 3, 4})
	if !bytes.Equal(sector(t, d, 1), want) {
		t.Errorf("the sector is %v", sector(t, d, 1))
	}
	// A record that fills the first sector exactly, and then one in the second one.
	if l.Append(bytes.Repeat([]byte{9}, 49)) != api.OK || d.Writes() != 2 || sector(t, d, 1)[59] != 59 || !bytes.Equal(sector(t, d, 2), make([]byte, 64)) {
		t.Errorf("the sectors are %v, %v", sector(t, d, 1), sector(t, d, 2))
	}
	if l.Append(nil) != api.OK || d.Writes() != 3 || sector(t, d, 2)[59] != 4 || l.Records() != 3 {
		t.Errorf("the second sector is %v", sector(t, d, 2))
	}
	expect(t, d, 1, 2, 0x01020304, [][]byte{{7, 8}, bytes.Repeat([]byte{9}, 49), {}})
	if !bytes.Equal(sector(t, d, 0), make([]byte, 64)) || !bytes.Equal(sector(t, d, 3), make([]byte, 64)) {
		t.Error("a sector outside of the range is changed")
	}
}

func TestRanges(t *testing.T) {
	d := newDisk(t, 10)
	for i, c := range []struct {
		first, count int
		epoch        uint32
		ok           bool
	}{{0, 10, 1, true}, {9, 1, 1, true}, {3, 7, math.MaxUint32, true}, {-1, 5, 1, false}, {0, 0, 1, false}, {0, -1, 1, false}, {0, 11, 1, false}, {10, 1, 1, false}, {10, 0, 1, false}, {5, 6, 1, false}, {0, 10, 0, false}, {math.MaxInt, 1, 1, false}, {1, math.MaxInt, 1, false}, {math.MaxInt, math.MaxInt, 1, false}, {math.MinInt, 1, 1, false}} {
		l, e1 := New(d, c.first, c.count, c.epoch)
		s, e2 := Scan(d, c.first, c.count, c.epoch)
		f, e3 := Fresh(d, c.first, c.count, c.epoch)
		if c.ok && (l == nil || e1 != api.OK || len(s) != 0 || e2 != api.OK || f != c.epoch || e3 != api.OK) {
			t.Errorf("case %d: %v, %d, %v, %d, %d, %d", i, l, e1, s, e2, f, e3)
		}
		if !c.ok && (l != nil || e1 != api.ErrInvalid || s != nil || e2 != api.ErrInvalid || f != 0 || e3 != api.ErrInvalid) {
			t.Errorf("case %d: %v, %d, %v, %d, %d, %d", i, l, e1, s, e2, f, e3)
		}
	}
	d.Fail()
	if s, e := Scan(d, 0, 10, 1); s != nil || e != api.ErrCrash {
		t.Errorf("Scan: %v, %d", s, e)
	}
	if f, e := Fresh(d, 0, 10, 1); f != 0 || e != api.ErrCrash {
		t.Errorf("Fresh: %d, %d", f, e)
	}
	if _, e := Scan(d, 0, 11, 1); e != api.ErrInvalid {
		t.Errorf("Scan: %d", e)
	}
	if _, e := Fresh(d, 0, 10, 0); e != api.ErrInvalid {
		t.Errorf("Fresh: %d", e)
	}
	if l, e := New(d, 0, 10, 1); l == nil || e != api.OK {
		t.Errorf("New: %d", e)
	}
}

func TestCapacity(t *testing.T) {
	for sectors, want := range map[int]int{math.MinInt: -1, -1: -1, 0: -1, 1: 55, 2: 114, 1000: 58996, 284359: 59*284359 - 4, 284360: 1 << 24, 1 << 20: 1 << 24, 1<<20 + 1: 1 << 24, math.MaxInt: 1 << 24} {
		if got := Capacity(sectors); got != want {
			t.Errorf("Capacity(%d) = %d, want %d", sectors, got, want)
		}
	}
	d := newDisk(t, 2)
	l := newLog(t, d, 0, 2, 1)
	for i, c := range []struct{ bytes, free int }{{0, 110}, {50, 56}, {52, 0}, {0, -1}} {
		if e := l.Append(make([]byte, c.bytes)); e != api.OK || l.Free() != c.free {
			t.Errorf("case %d: Free() = %d, %d", i, l.Free(), e)
		}
	}
	if l.Append(nil) != api.ErrFull || l.Records() != 4 {
		t.Error("a full log")
	}
	l = newLog(t, newDisk(t, 1), 0, 1, 1)
	if l.Append(make([]byte, 56)) != api.ErrFull || l.Free() != 55 || l.Records() != 0 || l.Append(make([]byte, 55)) != api.OK || l.Free() != -1 {
		t.Errorf("Free() = %d", l.Free())
	}
	l = newLog(t, newDisk(t, 1), 0, 1, 1)
	l.Append(make([]byte, 53))
	if l.Free() != -1 {
		t.Errorf("Free() = %d with two bytes left", l.Free())
	}
}

func TestRecords(t *testing.T) {
	r := rand.New(rand.NewSource(67))
	for range 60 {
		d := newDisk(t, 30)
		l := newLog(t, d, 3, 20, 77)
		var want [][]byte
		length := 0
		for {
			b := random(r, []int{0, 1, r.Intn(10), 51, 55, 59, r.Intn(200)}[r.Intn(7)])
			free := 59*20 - length - 4
			if l.Free() != max(free, -1) {
				t.Fatalf("Free() = %d, want %d", l.Free(), free)
			}
			writes := d.Writes()
			e := l.Append(b)
			if len(b) > free {
				if e != api.ErrFull || d.Writes() != writes {
					t.Fatalf("Append: %d", e)
				}
				break
			}
			touched := (length+len(b)+3)/59 - length/59 + 1
			if e != api.OK || d.Writes() != writes+touched {
				t.Fatalf("Append: %d, %d writes, want %d", e, d.Writes()-writes, touched)
			}
			length += 4 + len(b)
			want = append(want, b)
			if l.Records() != len(want) {
				t.Fatalf("Records() = %d", l.Records())
			}
			expect(t, d, 3, 20, 77, want)
			expect(t, d, 3, 20, 76, nil)
		}
	}
}

// After a failure in the middle of a record, the records before it are found, and possibly that record, too.
func TestFailures(t *testing.T) {
	r := rand.New(rand.NewSource(68))
	for range 2000 {
		d := newDisk(t, 12)
		// Other sectors can contain anything, except the epoch.
		for i := range 12 {
			d.Write(i, random(r, 64))
		}
		epoch, e := Fresh(d, 1, 10, uint32(r.Intn(3))+1)
		if e != api.OK {
			t.Fatal(e)
		}
		outside := [][]byte{sector(t, d, 0), sector(t, d, 11)}
		l := newLog(t, d, 1, 10, epoch)
		d.Arm(1+r.Intn(14), r.Intn(65))
		var want [][]byte
		var last []byte
		for {
			last = random(r, r.Intn(130))
			if e = l.Append(last); e != api.OK {
				break
			}
			want = append(want, last)
		}
		if e == api.ErrFull {
			d.Fail()
		}
		if l.Append(nil) != api.ErrCrash && l.Free() >= 0 {
			t.Fatal("Append after a failure")
		}
		d.Restart()
		got, e2 := Scan(d, 1, 10, epoch)
		if e2 != api.OK {
			t.Fatal(e2)
		}
		if e == api.ErrCrash && len(got) == len(want)+1 {
			want = append(want, last)
		}
		expect(t, d, 1, 10, epoch, want)
		if !bytes.Equal(sector(t, d, 0), outside[0]) || !bytes.Equal(sector(t, d, 11), outside[1]) {
			t.Fatal("a sector outside of the range is changed")
		}
	}
}

// Only the last write of a record makes it visible.
func TestLastWrite(t *testing.T) {
	for at := 1; at <= 3; at++ {
		for cut := range 65 {
			d := newDisk(t, 4)
			l := newLog(t, d, 0, 4, 5)
			l.Append([]byte{1})
			d.Arm(at, cut)
			record := bytes.Repeat([]byte{8}, 150)
			if l.Append(record) != api.ErrCrash {
				t.Fatal("no failure")
			}
			d.Restart()
			want := [][]byte{{1}}
			// The last sector is new: it belongs to the log when its epoch is complete.
			if at == 3 && cut == 64 {
				want = append(want, record)
			}
			expect(t, d, 0, 4, 5, want)
		}
	}
}

func TestFresh(t *testing.T) {
	d := newDisk(t, 5)
	write := func(n int, epoch uint32, count byte) {
		b := make([]byte, 64)
		b[59] = count
		copy(b[60:], numberBytes(epoch))
		d.Write(n, b)
	}
	for n, epoch := range []uint32{3, 4, 6, math.MaxUint32, math.MaxUint32 - 1} {
		write(n, epoch, byte(60+n))
	}
	for epoch, want := range map[uint32]uint32{1: 1, 3: 5, 4: 5, 5: 5, 6: 7, 7: 7, math.MaxUint32 - 2: math.MaxUint32 - 2} {
		if got, e := Fresh(d, 0, 5, epoch); got != want || e != api.OK {
			t.Errorf("Fresh(%d) = %d, %d", epoch, got, e)
		}
	}
	for _, epoch := range []uint32{math.MaxUint32 - 1, math.MaxUint32} {
		if got, e := Fresh(d, 0, 5, epoch); got != 0 || e != api.ErrFull {
			t.Errorf("Fresh(%d) = %d, %d", epoch, got, e)
		}
	}
	if got, e := Fresh(d, 1, 2, 3); got != 3 || e != api.OK {
		t.Errorf("Fresh of a range = %d, %d", got, e)
	}
}

func TestScan(t *testing.T) {
	put := func(d *disk.Disk, n int, count byte, epoch uint32, data ...byte) {
		b := make([]byte, 64)
		copy(b, data)
		b[59] = count
		copy(b[60:], numberBytes(epoch))
		d.Write(n, b)
	}
	full := append([]byte{0, 0, 0, 55}, bytes.Repeat([]byte{5}, 55)...)
	for i, c := range []struct {
		write func(d *disk.Disk)
		want  int
	}{
		{func(d *disk.Disk) { put(d, 0, 4, 9, 0, 0, 0, 0) }, 1}, {func(d *disk.Disk) { put(d, 0, 8, 9) }, 2}, {func(d *disk.Disk) { put(d, 0, 3, 9) }, 0}, {func(d *disk.Disk) { put(d, 0, 5, 9, 0, 0, 0, 2, 1, 1) }, 0}, {func(d *disk.Disk) { put(d, 0, 60, 9) }, 0}, {func(d *disk.Disk) { put(d, 0, 255, 9) }, 0}, {func(d *disk.Disk) { put(d, 0, 8, 8) }, 0}, {func(d *disk.Disk) { put(d, 1, 8, 9) }, 0},
		{func(d *disk.Disk) { put(d, 0, 59, 9, full...); put(d, 1, 4, 9) }, 2}, {func(d *disk.Disk) { put(d, 0, 59, 9, full...); put(d, 1, 60, 9) }, 1}, {func(d *disk.Disk) { put(d, 0, 58, 9, full...); put(d, 1, 59, 9, full...) }, 0}, {func(d *disk.Disk) { put(d, 0, 59, 9, full...); put(d, 1, 59, 9, full...); put(d, 2, 0, 9) }, 2}, {func(d *disk.Disk) { put(d, 0, 59, 9, 1, 0, 0, 1) }, 0}, {func(d *disk.Disk) { put(d, 0, 59, 9, 0xff, 0xff, 0xff, 0xff) }, 0},
		{func(d *disk.Disk) { put(d, 0, 0, 9); put(d, 1, 4, 9) }, 0},
	} {
		d := newDisk(t, 3)
		c.write(d)
		if got, e := Scan(d, 0, 3, 9); e != api.OK || len(got) != c.want {
			t.Errorf("case %d: %d records, %d", i, len(got), e)
		}
	}
}

func TestLargeRecord(t *testing.T) {
	d := newDisk(t, 65536)
	l := newLog(t, d, 0, 65536, 1)
	big := make([]byte, 59*65536-4)
	big[len(big)-1] = 7
	if l.Append(big) != api.OK || l.Free() != -1 {
		t.Error("a record in all sectors")
	}
	expect(t, d, 0, 65536, 1, [][]byte{big})
}

func TestAppendErrors(t *testing.T) {
	d := newDisk(t, 2)
	l := newLog(t, d, 0, 2, 1)
	d.Fail()
	if l.Append(make([]byte, 500)) != api.ErrFull || l.Append(nil) != api.ErrCrash {
		t.Error("Append on a failed disk")
	}
}

func TestNoSharing(t *testing.T) {
	d := newDisk(t, 2)
	l := newLog(t, d, 0, 2, 1)
	b := []byte{1, 2, 3}
	l.Append(b)
	b[0] = 9
	l.Append([]byte{4})
	got, _ := Scan(d, 0, 2, 1)
	got[0][1] = 9
	expect(t, d, 0, 2, 1, [][]byte{{1, 2, 3}, {4}})
}
