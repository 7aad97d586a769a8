package store

import (
	"bytes"
	"math"
	"math/rand"
	"reflect"
	"slices"
	"testing"

	"disjoint/api"
	"disjoint/bag"
	"disjoint/rowcodec"
	"disjoint/value"
)

const top = int64(1) << 62

var schema = api.Schema{
	{Name: "a", Columns: make([]api.Column, 1), Keys: [][]int{{0}}},
	{Name: "b", Columns: make([]api.Column, 2), Foreign: []api.Foreign{{Columns: []int{1}}}},
	{Name: "c", Columns: make([]api.Column, 1)},
}

func row(l ...int64) api.Row {
	var r api.Row
	for _, n := range l {
		r = append(r, value.Int(n))
	}
	return r
}

func insertion(table int, id int64, r api.Row) api.Change {
	return api.Change{Table: table, ID: id, New: r}
}

func mustApply(t *testing.T, s *Store, l ...api.Change) {
	t.Helper()
	for _, c := range l {
		if e := s.Apply(c); e != api.OK {
			t.Fatalf("Apply(%v): %d", c, e)
		}
	}
}

func TestExample(t *testing.T) {
	s := New(schema)
	c := insertion(0, 3, row(5))
	mustApply(t, s, c)
	if s.Table(0).Next() != 4 || s.Apply(c) != api.ErrExists || s.Apply(api.Change{ID: 3, Old: row(6)}) != api.ErrNotFound {
		t.Error("the example")
	}
	if b := EncodeChanges(nil); string(b) != rowcodec.Number(0) {
		t.Errorf("EncodeChanges(nil) = %v", b)
	}
}

func TestApplyErrors(t *testing.T) {
	s := New(schema)
	mustApply(t, s, insertion(0, 3, row(5)), insertion(1, 1, row(1, 2)))
	before := s.Encode()
	for i, c := range []struct {
		c    api.Change
		want api.Errno
	}{
		{insertion(-1, 1, row(1)), api.ErrInvalid}, {insertion(3, 1, row(1)), api.ErrInvalid}, {insertion(math.MaxInt, 1, row(1)), api.ErrInvalid}, {insertion(0, 0, row(1)), api.ErrInvalid}, {insertion(0, -1, row(1)), api.ErrInvalid}, {insertion(0, top+1, row(1)), api.ErrInvalid}, {insertion(0, math.MinInt64, row(1)), api.ErrInvalid}, {api.Change{ID: 3}, api.ErrInvalid}, {api.Change{ID: 3, Old: api.Row{}, New: api.Row{}}, api.ErrInvalid}, {insertion(0, 5, row(1, 2)), api.ErrInvalid}, {insertion(1, 5, row(1)), api.ErrInvalid}, {insertion(0, 5, api.Row{value.Text("\n")}), api.ErrInvalid}, {api.Change{ID: 3, Old: row(5), New: row(1, 2)}, api.ErrInvalid}, {insertion(0, 3, api.Row{{Kind: 9}}), api.ErrInvalid},
		{insertion(0, 3, row(7)), api.ErrExists}, {api.Change{ID: 3, Old: api.Row{}, New: row(7)}, api.ErrExists},
		{api.Change{ID: 4, Old: row(5)}, api.ErrNotFound}, {api.Change{ID: 3, Old: row(6)}, api.ErrNotFound}, {api.Change{ID: 3, Old: row(5, 5)}, api.ErrNotFound}, {api.Change{ID: 4, Old: row(5), New: row(5)}, api.ErrNotFound}, {api.Change{ID: 3, Old: row(6), New: row(5)}, api.ErrNotFound}, {api.Change{ID: 3, Old: api.Row{{}}, New: row(5)}, api.ErrNotFound},
	} {
		if e := s.Apply(c.c); e != c.want {
			t.Errorf("case %d: Apply = %d, want %d", i, e, c.want)
		}
		inverse := api.Change{Table: c.c.Table, ID: c.c.ID, Old: c.c.New, New: c.c.Old}
		if e := s.Undo(inverse); e != c.want {
			t.Errorf("case %d: Undo = %d, want %d", i, e, c.want)
		}
		if !bytes.Equal(s.Encode(), before) {
			t.Fatalf("case %d: the store is changed", i)
		}
	}
}

func randomChange(r *rand.Rand) api.Change {
	table := r.Intn(3)
	random := func() api.Row {
		if r.Intn(3) == 0 {
			return nil
		}
		l := make(api.Row, []int{1, 2, 1}[table])
		for i := range l {
			l[i] = []api.Value{{}, value.Int(1), value.Int(-7), value.Text("ab")}[r.Intn(4)]
		}
		return l
	}
	return api.Change{Table: table, ID: 1 + r.Int63n(5), Old: random(), New: random()}
}

// content returns the rows of a table by their numbers.
func content(s *Store, table int) map[int64]api.Row {
	m := map[int64]api.Row{}
	for id, r := range s.Table(table).All() {
		m[id] = r
	}
	return m
}

func TestRandom(t *testing.T) {
	r := rand.New(rand.NewSource(72))
	s := New(schema)
	models := []map[int64]api.Row{{}, {}, {}}
	applied := 0
	for range 6000 {
		c := randomChange(r)
		old, exists := models[c.Table][c.ID]
		fits := exists && value.CompareRows(old, c.Old) == 0
		want := api.OK
		switch {
		case c.Old == nil && c.New == nil:
			want = api.ErrInvalid
		case c.Old == nil && exists:
			want = api.ErrExists
		case c.Old != nil && !fits:
			want = api.ErrNotFound
		}
		before := content(s, c.Table)
		if e := s.Apply(c); e != want {
			t.Fatalf("Apply(%v) = %d, want %d", c, e, want)
		}
		if want == api.OK {
			applied++
			if r.Intn(3) == 0 {
				if e := s.Undo(c); e != api.OK || !reflect.DeepEqual(content(s, c.Table), before) {
					t.Fatalf("Undo(%v) = %d", c, e)
				}
			} else if c.New == nil {
				delete(models[c.Table], c.ID)
			} else {
				models[c.Table][c.ID] = c.New
			}
		}
		if !reflect.DeepEqual(content(s, c.Table), models[c.Table]) {
			t.Fatalf("table %d contains %v, want %v", c.Table, content(s, c.Table), models[c.Table])
		}
		want2 := bag.New()
		for _, x := range models[c.Table] {
			want2.Add(x)
		}
		if !s.Bag(c.Table).Equal(want2) {
			t.Fatalf("Bag(%d) = %v", c.Table, s.Bag(c.Table).Rows())
		}
		checkCopies(t, s)
	}
	if applied < 500 {
		t.Errorf("only %d changes were applied", applied)
	}
}

// checkCopies checks that a copy and the decoded encoding are equal to a store.
func checkCopies(t *testing.T, s *Store) {
	t.Helper()
	b := s.Encode()
	c := s.Copy()
	d, e := Decode(schema, b)
	if e != api.OK || !bytes.Equal(c.Encode(), b) || !bytes.Equal(d.Encode(), b) {
		t.Fatalf("Copy or Decode: %d", e)
	}
	for i := range schema {
		if d.Table(i).Next() != s.Table(i).Next() || c.Table(i).Next() != s.Table(i).Next() || !reflect.DeepEqual(content(d, i), content(s, i)) {
			t.Fatalf("table %d is not restored", i)
		}
	}
}

func TestCopyIsIndependent(t *testing.T) {
	s := New(schema)
	mustApply(t, s, insertion(0, 1, row(5)))
	c := s.Copy()
	mustApply(t, s, insertion(0, 2, row(6)))
	mustApply(t, c, api.Change{ID: 1, Old: row(5)}, insertion(2, 9, row(1)))
	if s.Table(0).Len() != 2 || c.Table(0).Len() != 0 || s.Table(2).Len() != 0 || c.Table(2).Next() != 10 || s.Table(0).Next() != 3 || c.Table(0).Next() != 2 {
		t.Error("a copy shares memory with its original")
	}
	r := row(7)
	mustApply(t, s, insertion(2, 1, r))
	r[0] = value.Int(8)
	if got, _ := s.Table(2).Get(1); got[0] != value.Int(7) {
		t.Error("the store shares memory with a change")
	}
	changed := slices.Clone(schema)
	x := New(changed)
	changed[0].Columns = nil
	mustApply(t, x, insertion(0, 1, row(5)))
	if s.Table(-1) != nil || s.Table(3) != nil || s.Bag(-1).Len() != 0 || s.Bag(3).Len() != 0 {
		t.Error("tables that do not exist")
	}
	// The table store belongs to the store.
	s.Table(2).Delete(1)
	if s.Bag(2).Len() != 0 {
		t.Error("Table returns a copy")
	}
}

func number(n int64) string { return rowcodec.Number(n) }

// bytesOf returns the bytes of a row.
func bytesOf(r api.Row) string {
	e := string(rowcodec.EncodeRow(r))
	return number(int64(len(e))) + e
}

func TestEncode(t *testing.T) {
	s := New(schema)
	mustApply(t, s, insertion(0, 2, row(5)), insertion(0, 7, api.Row{{}}), insertion(1, 1, api.Row{value.Text("x"), value.Int(-1)}), api.Change{ID: 7, Old: api.Row{{}}})
	want := number(8) + number(1) + number(2) + bytesOf(row(5)) + number(2) + number(1) + number(1) + bytesOf(api.Row{value.Text("x"), value.Int(-1)}) + number(1) + number(0)
	if got := string(s.Encode()); got != want {
		t.Errorf("Encode = %q", got)
	}
	if d, e := Decode(nil, nil); e != api.OK || d.Table(0) != nil || len(d.Encode()) != 0 {
		t.Errorf("the schema without tables: %d", e)
	}
}

func TestDecodeErrors(t *testing.T) {
	one := schema[:1]
	good := number(4) + number(2) + number(1) + bytesOf(row(5)) + number(3) + bytesOf(api.Row{{}})
	if d, e := Decode(one, []byte(good)); e != api.OK || string(d.Encode()) != good {
		t.Fatalf("Decode: %d", e)
	}
	for _, s := range []string{number(1) + number(0), number(top+1) + number(0), number(top+1) + number(1) + number(top) + bytesOf(row(1))} {
		if d, e := Decode(one, []byte(s)); e != api.OK || string(d.Encode()) != s {
			t.Errorf("Decode(%q): %d", s, e)
		}
	}
	for i := range len(good) {
		if d, e := Decode(one, []byte(good[:i])); d != nil || e != api.ErrSyntax {
			t.Errorf("a part of %d bytes: %d", i, e)
		}
	}
	for i, s := range []string{
		good + "x", number(0) + number(0), number(-1) + number(0), number(top+2) + number(0), number(4) + number(-1), number(4) + number(math.MaxInt64), number(3) + good[8:], number(4) + number(1) + good[16:], number(4) + number(3) + good[16:],
		number(9) + number(2) + number(3) + bytesOf(row(5)) + number(3) + bytesOf(row(6)), number(9) + number(2) + number(3) + bytesOf(row(5)) + number(2) + bytesOf(row(6)), number(9) + number(1) + number(0) + bytesOf(row(5)), number(9) + number(1) + number(-4) + bytesOf(row(5)), number(9) + number(1) + number(9) + bytesOf(row(5)),
		number(9) + number(1) + number(1) + bytesOf(row(5, 6)), number(9) + number(1) + number(1) + bytesOf(nil), number(9) + number(1) + number(1) + number(2) + "\x03\n", number(9) + number(1) + number(1) + number(-1), number(9) + number(1) + number(1) + number(8) + "\x01", number(9) + number(1) + number(1) + number(3) + "\x03\n\x00",
		good + number(1) + number(0),
	} {
		if d, e := Decode(one, []byte(s)); d != nil || e != api.ErrSyntax {
			t.Errorf("case %d: %d", i, e)
		}
	}
	if d, e := Decode(schema, []byte(good)); d != nil || e != api.ErrSyntax {
		t.Errorf("another schema: %d", e)
	}
	if d, e := Decode(nil, []byte{1}); d != nil || e != api.ErrSyntax {
		t.Errorf("no schema: %d", e)
	}
}

func TestChanges(t *testing.T) {
	l := []api.Change{{Table: 1, ID: 5, Old: row(1), New: api.Row{{}, value.Text("it's")}}, {Table: math.MinInt, ID: math.MaxInt64}, {ID: -3, New: row(2)}, {Table: 7, Old: row(3, 4, 5)}}
	b := EncodeChanges(l)
	want := number(4) + number(1) + number(5) + bytesOf(row(1)) + bytesOf(l[0].New) + number(math.MinInt64) + number(math.MaxInt64) + number(0) + number(0) + number(0) + number(-3) + number(0) + bytesOf(row(2)) + number(7) + number(0) + bytesOf(row(3, 4, 5)) + number(0)
	if string(b) != want {
		t.Errorf("EncodeChanges = %q", b)
	}
	got, e := DecodeChanges(b)
	if e != api.OK || !reflect.DeepEqual(got, l) {
		t.Errorf("DecodeChanges = %v, %d", got, e)
	}
	if got, e := DecodeChanges([]byte(number(0))); e != api.OK || len(got) != 0 {
		t.Errorf("DecodeChanges = %v, %d", got, e)
	}
	if EncodeChanges([]api.Change{{Old: api.Row{{Int: 1}}}}) != nil || EncodeChanges([]api.Change{{}, {New: api.Row{value.Text("\n")}}}) != nil {
		t.Error("changes with values that are not valid")
	}
	for i := range len(b) {
		if got, e := DecodeChanges(b[:i]); got != nil || e != api.ErrSyntax {
			t.Errorf("a part of %d bytes: %v, %d", i, got, e)
		}
	}
	for i, s := range []string{string(b) + "x", number(-1), number(1), number(math.MaxInt64), number(0) + number(0), number(1) + number(0) + number(0) + number(-1) + number(0), number(1) + number(0) + number(0) + number(9) + "\x01", number(1) + number(0) + number(0) + number(1) + "\x07" + number(0)} {
		if got, e := DecodeChanges([]byte(s)); got != nil || e != api.ErrSyntax {
			t.Errorf("case %d: %v, %d", i, got, e)
		}
	}
}
