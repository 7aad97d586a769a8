package recovery

import (
	"bytes"
	"math"
	"math/rand"
	"slices"
	"testing"

	"disjoint/api"
	"disjoint/disk"
	"disjoint/rowcodec"
	"disjoint/snapshot"
	"disjoint/store"
	"disjoint/value"
	"disjoint/wal"
)

var schema = api.Schema{{Name: "a", Columns: make([]api.Column, 1), Keys: [][]int{{0}}}, {Name: "b", Columns: make([]api.Column, 2)}}

func newDisk(t *testing.T, sectors int) *disk.Disk {
	t.Helper()
	d, e := disk.New(sectors)
	if e != api.OK {
		t.Fatal(e)
	}
	return d
}

func formatted(t *testing.T, sectors int) *disk.Disk {
	t.Helper()
	d := newDisk(t, sectors)
	if e := Format(d, schema); e != api.OK {
		t.Fatalf("Format: %d", e)
	}
	return d
}

func open(t *testing.T, d *disk.Disk) *Database {
	t.Helper()
	x, e := Open(d, schema)
	if e != api.OK {
		t.Fatalf("Open: %d", e)
	}
	return x
}

func insertion(id, n int64) api.Change {
	return api.Change{ID: id, New: api.Row{value.Int(n)}}
}

func mustCommit(t *testing.T, x *Database, session int, txn int64, l ...api.Change) {
	t.Helper()
	if e := x.Commit(session, txn, l); e != api.OK {
		t.Fatalf("Commit: %d", e)
	}
}

// image is all of a state that can be observed.
func image(x *Database) string {
	b := x.Store().Encode()
	for s := range api.MaxSessions {
		b = append(b, rowcodec.Number(x.Committed(s))...)
	}
	return string(b)
}

func TestExample(t *testing.T) {
	d := formatted(t, 60)
	x := open(t, d)
	if x.Epoch() != 2 {
		t.Errorf("the epoch is %d", x.Epoch())
	}
	mustCommit(t, x, 2, 11, insertion(1, 5))
	if x.Committed(2) != 11 || x.Committed(1) != 0 || x.Store().Bag(0).Len() != 1 {
		t.Error("after the commit")
	}
	d.Fail()
	d.Restart()
	y := open(t, d)
	if y.Committed(2) != 11 || image(x) != image(y) || y.Epoch() != 3 {
		t.Error("after the failure")
	}
	for _, n := range []int64{11, 3, 0, -1, math.MinInt64} {
		if e := y.Commit(2, n, nil); e != api.ErrInvalid {
			t.Errorf("Commit of %d: %d", n, e)
		}
	}
	for _, s := range []int{-1, 8, math.MaxInt, math.MinInt} {
		if e := y.Commit(s, 50, nil); e != api.ErrInvalid || y.Committed(s) != 0 {
			t.Errorf("Commit of session %d: %d", s, e)
		}
	}
	mustCommit(t, y, 0, 1)
	mustCommit(t, y, 7, math.MaxInt64)
	if y.Committed(0) != 1 || y.Committed(7) != math.MaxInt64 {
		t.Error("commits without changes")
	}
}

func TestFormatOnDisk(t *testing.T) {
	d := formatted(t, 60)
	b, epoch, e := snapshot.Read(d)
	want := bytes.Repeat([]byte(rowcodec.Number(0)), 8)
	want = append(want, store.New(schema).Encode()...)
	if e != api.OK || epoch != 1 || !bytes.Equal(b, want) {
		t.Errorf("the version is %v of epoch %d, %d", b, epoch, e)
	}
	x := open(t, d)
	changes := []api.Change{insertion(3, 7), {Table: 1, ID: 2, New: api.Row{{}, value.Text("x")}}}
	mustCommit(t, x, 4, 77, changes...)
	l, _ := snapshot.Divide(60)
	records, e := wal.Scan(d, l.Log, l.Count, x.Epoch())
	record := append([]byte(rowcodec.Number(4)+rowcodec.Number(77)), store.EncodeChanges(changes)...)
	if e != api.OK || len(records) != 1 || !bytes.Equal(records[0], record) {
		t.Errorf("the records are %v, %d", records, e)
	}
	if x.Checkpoint() != api.OK || x.Epoch() != 3 {
		t.Errorf("the epoch is %d", x.Epoch())
	}
	b, epoch, _ = snapshot.Read(d)
	want = want[:0]
	for s := range int64(8) {
		want = append(want, rowcodec.Number(map[int64]int64{4: 77}[s])...)
	}
	if epoch != 3 || !bytes.Equal(b, append(want, x.Store().Encode()...)) {
		t.Errorf("the version is %v of epoch %d", b, epoch)
	}
	if records, _ := wal.Scan(d, l.Log, l.Count, 3); len(records) != 0 {
		t.Errorf("the records are %v", records)
	}
}

func TestCommitErrors(t *testing.T) {
	x := open(t, formatted(t, 60))
	mustCommit(t, x, 0, 1, insertion(3, 7))
	before := image(x)
	for i, l := range [][]api.Change{{insertion(3, 8)}, {insertion(4, 8), insertion(4, 9)}, {{ID: 3, Old: api.Row{value.Int(8)}}}, {insertion(9, 1), {ID: 5, Old: api.Row{value.Int(8)}}}, {{Table: 2, ID: 1, New: api.Row{value.Int(8)}}}, {{ID: 8}}, {insertion(0, 1)}, {{ID: 9, New: api.Row{{}, {}}}}, {{ID: 9, New: api.Row{value.Text("\n")}}}} {
		if e := x.Commit(0, 2, l); e != api.ErrInvalid || image(x) != before {
			t.Errorf("case %d: Commit = %d", i, e)
		}
	}
	// Changes are applied one after the other.
	mustCommit(t, x, 0, 2, insertion(4, 1), api.Change{ID: 4, Old: api.Row{value.Int(1)}, New: api.Row{value.Int(2)}}, api.Change{ID: 4, Old: api.Row{value.Int(2)}})
}

func TestFull(t *testing.T) {
	// A log of two sectors: 114 bytes; a commit of one insertion has 16 + 8 + 16 + 8 + 8 + 9 = 65 bytes.
	small := api.Schema{{Columns: make([]api.Column, 1)}}
	d := newDisk(t, 11)
	if e := Format(d, small); e != api.OK {
		t.Fatal(e)
	}
	x, e := Open(d, small)
	if e != api.OK {
		t.Fatal(e)
	}
	mustCommit(t, x, 0, 1, insertion(1, 1))
	mustCommit(t, x, 0, 2, api.Change{ID: 1, Old: api.Row{value.Int(1)}})
	mustCommit(t, x, 0, 3, insertion(1, 1))
	before := image(x)
	if e := x.Commit(0, 4, []api.Change{{ID: 1, Old: api.Row{value.Int(1)}}}); e != api.ErrFull || image(x) != before {
		t.Errorf("a full log: %d", e)
	}
	if x.Checkpoint() != api.OK || image(x) != before {
		t.Error("Checkpoint")
	}
	// The state has 64 + 16 bytes and 25 for each row; the area has 128 bytes.
	if e := x.Commit(0, 4, []api.Change{insertion(2, 2)}); e != api.ErrFull || image(x) != before {
		t.Errorf("a full area: %d", e)
	}
	mustCommit(t, x, 0, 4, api.Change{ID: 1, Old: api.Row{value.Int(1)}, New: api.Row{{}}})
	y, e := Open(d, small)
	if e != api.OK || image(y) != image(x) {
		t.Errorf("Open: %d", e)
	}
}

func TestOpenAndFormatErrors(t *testing.T) {
	small := newDisk(t, 6)
	if e := Format(small, schema); e != api.ErrInvalid {
		t.Errorf("Format: %d", e)
	}
	if x, e := Open(small, schema); x != nil || e != api.ErrInvalid {
		t.Errorf("Open: %d", e)
	}
	tight := newDisk(t, 7)
	if e := Format(tight, schema); e != api.ErrFull {
		t.Errorf("Format: %d", e)
	}
	d := newDisk(t, 30)
	if x, e := Open(d, schema); x != nil || e != api.ErrNotFound {
		t.Errorf("Open: %d", e)
	}
	d.Fail()
	if e := Format(d, schema); e != api.ErrCrash {
		t.Errorf("Format: %d", e)
	}
	if x, e := Open(d, schema); x != nil || e != api.ErrCrash {
		t.Errorf("Open: %d", e)
	}
	d.Restart()
	root := make([]byte, 64)
	root[0] = 9
	d.Write(0, root)
	if e := Format(d, schema); e != api.ErrChecksum {
		t.Errorf("Format: %d", e)
	}
	if x, e := Open(d, schema); x != nil || e != api.ErrChecksum {
		t.Errorf("Open: %d", e)
	}
	d = formatted(t, 30)
	if x, e := Open(d, schema[:1]); x != nil || e != api.ErrSyntax {
		t.Errorf("Open for another schema: %d", e)
	}
	for i, b := range [][]byte{nil, make([]byte, 63), bytes.Repeat([]byte(rowcodec.Number(0)), 8)} {
		if snapshot.Write(d, uint32(10+i), b) != api.OK {
			t.Fatal("Write")
		}
		if x, e := Open(d, schema); x != nil || e != api.ErrSyntax {
			t.Errorf("case %d: Open = %d", i, e)
		}
	}
}

func TestWrongRecords(t *testing.T) {
	number := rowcodec.Number
	good := number(1) + number(5) + string(store.EncodeChanges([]api.Change{insertion(1, 1)}))
	for i, c := range []struct {
		record string
		want   api.Errno
	}{{good, api.OK}, {number(1) + number(1) + number(0), api.OK}, {"", api.ErrSyntax}, {number(1), api.ErrSyntax}, {number(1) + number(5), api.ErrSyntax}, {good + "x", api.ErrSyntax}, {number(-1) + good[8:], api.ErrSyntax}, {number(8) + good[8:], api.ErrSyntax}, {number(1) + number(0) + number(0), api.ErrSyntax}, {number(1) + number(-7) + number(0), api.ErrSyntax}, {number(1) + number(5) + string(store.EncodeChanges([]api.Change{{ID: 9, Old: api.Row{value.Int(1)}}})), api.ErrSyntax}, {number(math.MinInt64) + good[8:], api.ErrSyntax}} {
		d := formatted(t, 40)
		l, _ := snapshot.Divide(40)
		log, _ := wal.New(d, l.Log, l.Count, 1)
		if log.Append([]byte(c.record)) != api.OK {
			t.Fatal("Append")
		}
		x, e := Open(d, schema)
		if e != c.want || (x != nil) != (e == api.OK) {
			t.Errorf("case %d: Open = %d", i, e)
		}
	}
	// The number of a session must ascend.
	d := formatted(t, 40)
	l, _ := snapshot.Divide(40)
	log, _ := wal.New(d, l.Log, l.Count, 1)
	log.Append([]byte(number(1) + number(5) + number(0)))
	log.Append([]byte(number(1) + number(5) + number(0)))
	if _, e := Open(d, schema); e != api.ErrSyntax {
		t.Errorf("Open = %d", e)
	}
}

func TestLastEpoch(t *testing.T) {
	d := formatted(t, 40)
	x := open(t, d)
	b, _, _ := snapshot.Read(d)
	if snapshot.Write(d, math.MaxUint32-1, b) != api.OK {
		t.Fatal("Write")
	}
	x = open(t, d)
	if x.Epoch() != math.MaxUint32 {
		t.Errorf("the epoch is %d", x.Epoch())
	}
	mustCommit(t, x, 0, 1, insertion(1, 1))
	before := image(x)
	if x.Checkpoint() != api.ErrFull || image(x) != before || x.Epoch() != math.MaxUint32 {
		t.Error("Checkpoint with the last epoch")
	}
	mustCommit(t, x, 0, 2, insertion(2, 1))
	if y, e := Open(d, schema); y != nil || e != api.ErrFull {
		t.Errorf("Open: %d", e)
	}
	if e := Format(d, schema); e != api.ErrFull {
		t.Errorf("Format: %d", e)
	}
}

// The epoch is one with which no sector of the log ends.
func TestFreshEpoch(t *testing.T) {
	d := newDisk(t, 40)
	l, _ := snapshot.Divide(40)
	for i, n := range []byte{1, 2, 4} {
		b := bytes.Repeat([]byte{0}, 64)
		b[63] = n
		d.Write(l.Log+i, b)
	}
	if e := Format(d, schema); e != api.OK {
		t.Fatal(e)
	}
	if _, epoch, _ := snapshot.Read(d); epoch != 3 {
		t.Errorf("the epoch is %d", epoch)
	}
	if x := open(t, d); x.Epoch() != 5 {
		t.Errorf("the epoch is %d", x.Epoch())
	}
}

func TestFormatAgain(t *testing.T) {
	d := formatted(t, 40)
	x := open(t, d)
	initial := image(x)
	mustCommit(t, x, 3, 9, insertion(1, 1))
	if e := Format(d, schema); e != api.OK {
		t.Fatal(e)
	}
	y := open(t, d)
	if image(y) != initial || y.Epoch() != 4 {
		t.Errorf("the epoch is %d", y.Epoch())
	}
}

// After a failure at any time the database has the state after all commits that were acknowledged, and possibly that of one more.
func TestFailures(t *testing.T) {
	r := rand.New(rand.NewSource(75))
	inDoubt := map[bool]int{}
	for range 600 {
		d := formatted(t, 40+r.Intn(30))
		x := open(t, d)
		id, txn := int64(1), int64(0)
		for range 3 {
			d.Arm(1+r.Intn(25), r.Intn(65))
			acknowledged := image(x)
			possible := acknowledged
			for range 60 {
				txn++
				e := api.OK
				if r.Intn(8) == 0 {
					e = x.Checkpoint()
					possible = acknowledged
				} else {
					var l []api.Change
					for range r.Intn(4) {
						l = append(l, insertion(id, r.Int63n(100)))
						id++
					}
					after := imageAfter(t, x, txn, l)
					if e = x.Commit(int(txn%8), txn, l); e == api.ErrFull {
						e = x.Checkpoint()
					} else {
						possible = after
					}
					if e == api.OK && image(x) != possible && image(x) != acknowledged {
						t.Fatal("the state after a commit")
					}
				}
				if e != api.OK {
					break
				}
				acknowledged = image(x)
				possible = acknowledged
			}
			d.Fail()
			for d.Failed() {
				d.Restart()
				// The disk can fail during Open, any number of times.
				d.Arm(r.Intn(30), r.Intn(65))
				if y, e := Open(d, schema); e == api.OK {
					x = y
				} else if e != api.ErrCrash {
					t.Fatalf("Open: %d", e)
				}
			}
			d.Arm(0, 0)
			got := image(x)
			if got != acknowledged && got != possible {
				t.Fatal("a commit is lost, or there is one too many")
			}
			if acknowledged != possible {
				inDoubt[got == possible]++
			}
			id = x.Store().Table(0).Next()
			for s := range 8 {
				txn = max(txn, x.Committed(s))
			}
		}
	}
	if inDoubt[true] < 5 || inDoubt[false] < 20 {
		t.Errorf("commits in doubt: %v", inDoubt)
	}
}

// imageAfter returns the image of the state after a commit.
func imageAfter(t *testing.T, x *Database, txn int64, l []api.Change) string {
	t.Helper()
	s := x.Store()
	for _, c := range l {
		if e := s.Apply(c); e != api.OK {
			t.Fatalf("Apply: %d", e)
		}
	}
	b := s.Encode()
	for i := range api.MaxSessions {
		n := x.Committed(i)
		if i == int(txn%8) {
			n = txn
		}
		b = append(b, rowcodec.Number(n)...)
	}
	return string(b)
}

func TestFailuresDuringFormat(t *testing.T) {
	for at := 1; at <= 6; at++ {
		for _, cut := range []int{0, 1, 30, 64} {
			d := formatted(t, 40)
			x := open(t, d)
			initial := image(x)
			mustCommit(t, x, 1, 3, insertion(1, 1))
			before := image(x)
			d.Arm(at, cut)
			e := Format(d, schema)
			d.Arm(0, 0)
			d.Restart()
			got := image(open(t, d))
			if got != initial && (got != before || e == api.OK) {
				t.Errorf("failure %d, %d: Format = %d", at, cut, e)
			}
		}
	}
}

func TestNoSharing(t *testing.T) {
	x := open(t, formatted(t, 60))
	l := []api.Change{insertion(1, 5)}
	mustCommit(t, x, 0, 1, l...)
	l[0].New[0] = value.Int(9)
	x.Store().Table(0).Delete(1)
	if rows := x.Store().Bag(0).Rows(); len(rows) != 1 || !slices.Equal(rows[0], api.Row{value.Int(5)}) {
		t.Errorf("rows: %v", rows)
	}
}

// Neither a checkpoint nor closing and opening changes the state, also not the next numbers.
func TestStateIsKept(t *testing.T) {
	d := formatted(t, 60)
	x := open(t, d)
	mustCommit(t, x, 0, 1, insertion(1, 5), insertion(9, 6), api.Change{ID: 9, Old: api.Row{value.Int(6)}})
	before := image(x)
	if x.Checkpoint() != api.OK || image(x) != before || image(open(t, d)) != before || x.Store().Table(0).Next() != 10 {
		t.Error("the state is changed")
	}
}

// TestSize checks that the length of the state is known after each commit.
func TestSize(t *testing.T) {
	r := rand.New(rand.NewSource(97))
	x := open(t, formatted(t, 400))
	rows := map[int64]api.Row{}
	full := 0
	for txn := int64(1); txn <= 600; txn++ {
		after := map[int64]api.Row{}
		for id, row := range rows {
			after[id] = row
		}
		var l []api.Change
		for range 1 + r.Intn(3) {
			c := api.Change{ID: 1 + r.Int63n(60)}
			c.Old = after[c.ID]
			if c.Old == nil || r.Intn(3) > 0 {
				c.New = api.Row{value.Text("abcdefghijklmnop"[:r.Intn(17)])}
			}
			if after[c.ID] = c.New; c.New == nil {
				delete(after, c.ID)
			}
			l = append(l, c)
		}
		switch e := x.Commit(r.Intn(8), txn, l); e {
		case api.OK:
			rows = after
		case api.ErrFull:
			full++
			if e := x.Checkpoint(); e != api.OK {
				t.Fatal(e)
			}
		default:
			t.Fatalf("%v: %d", l, e)
		}
		if x.size != len(x.state.bytes()) || x.state.store.Table(0).Len() != len(rows) {
			t.Fatalf("%d bytes instead of %d, %d rows instead of %d", x.size, len(x.state.bytes()), x.state.store.Table(0).Len(), len(rows))
		}
		if r.Intn(50) == 0 {
			x = open(t, x.d)
		}
	}
	if full == 0 || len(rows) == 0 {
		t.Errorf("%d times full, %d rows", full, len(rows))
	}
}
