package constraint

import (
	"math/rand"
	"testing"

	"disjoint/api"
	"disjoint/binder"
	"disjoint/parser"
	"disjoint/schema"
	"disjoint/store"
	"disjoint/value"
)

func build(t *testing.T, s string) api.Schema {
	t.Helper()
	l, offset, e := parser.Script(s)
	if e != api.OK {
		t.Fatalf("%q: %d at %d", s, e, offset)
	}
	x, _, e := schema.Build(l)
	if e != api.OK {
		t.Fatalf("%q: %d", s, e)
	}
	x, e = binder.Schema(x)
	if e != api.OK {
		t.Fatalf("%q: %d", s, e)
	}
	return x
}

const tables = `
CREATE TABLE a (x INTEGER(0, 9), y TEXT(3), z INTEGER NOT NULL, UNIQUE (x), UNIQUE (z, y), CHECK (x <> 5), CHECK (z < 100 OR y = 'q'));
CREATE TABLE b (p INTEGER, q TEXT, r INTEGER, FOREIGN KEY (p) REFERENCES a (x), FOREIGN KEY (r, q) REFERENCES a (z, y));
CREATE TABLE c (id INTEGER, up INTEGER, UNIQUE (id), FOREIGN KEY (up) REFERENCES c (id));`

var null = api.Value{}

func ints(l ...int64) api.Row {
	var r api.Row
	for _, n := range l {
		if n < 0 {
			r = append(r, null)
		} else {
			r = append(r, value.Int(n))
		}
	}
	return r
}

func rowA(x int64, y string, z int64) api.Row {
	r := ints(x, -1, z)
	if y != "" {
		r[1] = value.Text(y)
	}
	return r
}

func rowB(p int64, q string, r int64) api.Row { return rowA(p, q, r) }

// with returns a store with some rows, with the numbers from 1 on in each table.
func with(t *testing.T, s api.Schema, rows ...[]api.Row) *store.Store {
	t.Helper()
	st := store.New(s)
	for table, l := range rows {
		for _, r := range l {
			if st.Table(table).Insert(r) == 0 {
				t.Fatalf("%v is not stored", r)
			}
		}
	}
	return st
}

func TestRow(t *testing.T) {
	s := build(t, tables)
	for i, c := range []struct {
		r    api.Row
		want api.Errno
	}{{rowA(1, "a", 5), api.OK}, {rowA(-1, "", 5), api.OK}, {rowA(-1, "", 100), api.OK}, {rowA(1, "q", 100), api.OK}, {rowA(1, "a", 100), api.ErrCheck}, {rowA(5, "a", 1), api.ErrCheck}, {rowA(10, "a", 1), api.ErrRange}, {rowA(1, "long", 1), api.ErrRange}, {rowA(10, "a", -1), api.ErrNull}, {rowA(5, "a", -1), api.ErrNull}, {nil, api.ErrInvalid}, {ints(1, 2), api.ErrInvalid}, {append(rowA(1, "a", 5), null), api.ErrInvalid}, {api.Row{value.Text("a"), null, value.Int(1)}, api.ErrRange}, {api.Row{{Int: 1}, null, value.Int(1)}, api.ErrRange}} {
		if e := Row(s[0], c.r); e != c.want {
			t.Errorf("case %d: Row = %d, want %d", i, e, c.want)
		}
	}
}

func TestUnique(t *testing.T) {
	s := build(t, tables)
	st := with(t, s, []api.Row{rowA(1, "a", 1), rowA(1, "b", 1), rowA(2, "a", 1), rowA(-1, "", 7), rowA(-1, "", 7)})
	for i, c := range []struct {
		table, key int
		id         int64
		want       bool
	}{{0, 0, 1, false}, {0, 0, 2, false}, {0, 0, 3, true}, {0, 0, 4, true}, {0, 1, 1, false}, {0, 1, 2, true}, {0, 1, 3, false}, {0, 1, 5, true}, {0, 0, 9, true}, {0, 0, 0, true}, {0, 2, 1, true}, {0, -1, 1, true}, {-1, 0, 1, true}, {3, 0, 1, true}, {1, 0, 1, true}} {
		if Unique(s, st, c.table, c.key, c.id) != c.want {
			t.Errorf("case %d: Unique is %v", i, !c.want)
		}
	}
}

func TestReferenced(t *testing.T) {
	s := build(t, tables)
	st := with(t, s, []api.Row{rowA(1, "a", 7)}, nil, []api.Row{ints(4, -1)})
	for i, c := range []struct {
		table, foreign int
		r              api.Row
		want           bool
	}{{1, 0, rowB(1, "", -1), true}, {1, 0, rowB(2, "", -1), false}, {1, 0, rowB(-1, "", -1), true}, {1, 1, rowB(-1, "a", 7), true}, {1, 1, rowB(-1, "b", 7), false}, {1, 1, rowB(-1, "b", -1), true}, {1, 1, rowB(-1, "", 8), true}, {1, 0, nil, true}, {1, 0, ints(2), true}, {1, 2, rowB(2, "", -1), true}, {1, -1, rowB(2, "", -1), true}, {-1, 0, rowB(2, "", -1), true}, {9, 0, rowB(2, "", -1), true}, {0, 0, rowA(2, "", 1), true}, {2, 0, ints(5, 4), true}, {2, 0, ints(5, 5), false}} {
		if Referenced(s, st, c.table, c.foreign, c.r) != c.want {
			t.Errorf("case %d: Referenced is %v", i, !c.want)
		}
	}
}

func TestAll(t *testing.T) {
	s := build(t, tables)
	for i, c := range []struct {
		rows [][]api.Row
		want api.Errno
	}{
		{nil, api.OK}, {[][]api.Row{{rowA(1, "a", 1), rowA(2, "a", 2)}, {rowB(1, "a", 2), rowB(1, "a", 2), rowB(-1, "", 5)}, {ints(1, 1), ints(2, 1)}}, api.OK},
		{[][]api.Row{{rowA(1, "a", -1)}}, api.ErrNull}, {[][]api.Row{{rowA(11, "a", 1)}}, api.ErrRange}, {[][]api.Row{{rowA(5, "a", 1)}}, api.ErrCheck}, {[][]api.Row{{rowA(1, "a", 1), rowA(1, "a", 2)}}, api.ErrUnique}, {[][]api.Row{{rowA(1, "a", 1), rowA(2, "a", 1)}}, api.ErrUnique}, {[][]api.Row{nil, {rowB(1, "", -1)}}, api.ErrForeign}, {[][]api.Row{{rowA(1, "a", 1)}, {rowB(1, "b", 1)}}, api.ErrForeign}, {[][]api.Row{nil, nil, {ints(1, 2)}}, api.ErrForeign},
		// The error with the least number counts, wherever it is.
		{[][]api.Row{nil, {rowB(1, "", -1)}, {ints(1, -1), ints(1, -1)}}, api.ErrUnique}, {[][]api.Row{{rowA(1, "a", 1), rowA(1, "a", 1), rowA(5, "", 3)}}, api.ErrCheck}, {[][]api.Row{{rowA(5, "a", 1), rowA(11, "", 3)}, {rowB(1, "", -1)}}, api.ErrRange}, {[][]api.Row{{rowA(11, "a", 1), rowA(1, "", -1)}}, api.ErrNull},
	} {
		if e := All(s, with(t, s, c.rows...)); e != c.want {
			t.Errorf("case %d: All = %d, want %d", i, e, c.want)
		}
	}
}

func mustApply(t *testing.T, st *store.Store, l []api.Change) {
	t.Helper()
	for _, c := range l {
		if e := st.Apply(c); e != api.OK {
			t.Fatalf("Apply(%v): %d", c, e)
		}
	}
}

func TestChanges(t *testing.T) {
	s := build(t, tables)
	base := [][]api.Row{{rowA(1, "a", 1), rowA(2, "b", 2), rowA(-1, "", 3)}, {rowB(1, "b", 2), rowB(-1, "", 9)}, {ints(1, 1), ints(2, 1)}}
	for i, c := range []struct {
		l    []api.Change
		want api.Errno
	}{
		{nil, api.OK},
		// Exchanging two keys violates nothing.
		{[]api.Change{{ID: 1, Old: base[0][0], New: rowA(2, "a", 1)}, {ID: 2, Old: base[0][1], New: rowA(1, "b", 2)}}, api.OK}, {[]api.Change{{ID: 1, Old: base[0][0], New: rowA(2, "a", 1)}}, api.ErrUnique}, {[]api.Change{{ID: 4, New: rowA(1, "a", 9)}}, api.ErrUnique}, {[]api.Change{{ID: 4, New: rowA(4, "a", 1)}}, api.ErrUnique}, {[]api.Change{{ID: 4, New: rowA(-1, "", 1)}}, api.OK}, {[]api.Change{{ID: 4, New: rowA(3, "a", 2)}}, api.OK},
		{[]api.Change{{ID: 1, Old: base[0][0]}}, api.ErrForeign}, {[]api.Change{{ID: 2, Old: base[0][1]}}, api.ErrForeign}, {[]api.Change{{ID: 3, Old: base[0][2]}}, api.OK}, {[]api.Change{{ID: 1, Old: base[0][0]}, {Table: 1, ID: 1, Old: base[1][0], New: rowB(2, "b", 2)}}, api.OK}, {[]api.Change{{ID: 1, Old: base[0][0]}, {ID: 7, New: rowA(1, "z", 1)}}, api.OK}, {[]api.Change{{ID: 1, Old: base[0][0], New: rowA(1, "c", 8)}}, api.OK}, {[]api.Change{{ID: 2, Old: base[0][1], New: rowA(2, "c", 2)}}, api.ErrForeign}, {[]api.Change{{ID: 1, Old: base[0][0], New: rowA(-1, "a", 1)}}, api.ErrForeign},
		{[]api.Change{{Table: 1, ID: 3, New: rowB(1, "a", 1)}}, api.OK}, {[]api.Change{{Table: 1, ID: 3, New: rowB(3, "a", 1)}}, api.ErrForeign}, {[]api.Change{{Table: 1, ID: 3, New: rowB(1, "a", 2)}}, api.ErrForeign}, {[]api.Change{{Table: 1, ID: 3, New: rowB(7, "", -1)}, {ID: 4, New: rowA(7, "", 4)}}, api.OK}, {[]api.Change{{Table: 1, ID: 1, Old: base[1][0]}}, api.OK}, {[]api.Change{{Table: 1, ID: 2, Old: base[1][1], New: rowB(9, "", 9)}}, api.ErrForeign},
		{[]api.Change{{Table: 2, ID: 1, Old: base[2][0]}}, api.ErrForeign}, {[]api.Change{{Table: 2, ID: 1, Old: base[2][0]}, {Table: 2, ID: 2, Old: base[2][1]}}, api.OK}, {[]api.Change{{Table: 2, ID: 3, New: ints(3, 3)}}, api.OK}, {[]api.Change{{Table: 2, ID: 1, Old: base[2][0], New: ints(4, 4)}}, api.ErrForeign},
		// The error of a key counts before that of a foreign key.
		{[]api.Change{{Table: 1, ID: 3, New: rowB(3, "", 1)}, {ID: 4, New: rowA(1, "a", 9)}}, api.ErrUnique},
	} {
		st := with(t, s, base...)
		mustApply(t, st, c.l)
		if e := Changes(s, st, c.l); e != c.want {
			t.Errorf("case %d: Changes = %d, want %d", i, e, c.want)
		}
	}
}

// Rows of a wrong length count as absent, and changes of tables that do not exist are ignored.
func TestStrangeChanges(t *testing.T) {
	s := build(t, tables)
	st := with(t, s, []api.Row{rowA(1, "a", 1)}, []api.Row{rowB(1, "", -1)})
	for i, c := range []struct {
		c    api.Change
		want api.Errno
	}{{api.Change{Table: -1, ID: 1, New: rowA(1, "a", 1)}, api.OK}, {api.Change{Table: 3, ID: 1, Old: ints(1)}, api.OK}, {api.Change{ID: 9, New: ints(1)}, api.OK}, {api.Change{ID: 9, Old: ints(7), New: rowA(1, "b", 2)}, api.ErrUnique}, {api.Change{ID: 1, Old: ints(7), New: rowA(1, "b", 2)}, api.OK}, {api.Change{ID: -5, New: rowA(1, "b", 2)}, api.ErrUnique}, {api.Change{ID: 9}, api.OK}, {api.Change{ID: 9, Old: rowA(1, "x", 8), New: ints(1)}, api.OK}, {api.Change{Table: 1, ID: 9, Old: ints(1), New: rowB(4, "", -1)}, api.ErrForeign}, {api.Change{Table: 1, ID: 9, Old: rowB(4, "", -1), New: rowB(4, "", -1)}, api.OK}} {
		if e := Changes(s, st, []api.Change{c.c}); e != c.want {
			t.Errorf("case %d: Changes = %d, want %d", i, e, c.want)
		}
	}
}

// After changes of different rows all constraints hold exactly if the new rows are possible and Changes finds no error.
func TestConsequences(t *testing.T) {
	s := build(t, tables)
	r := rand.New(rand.NewSource(74))
	texts := []string{"", "a", "b"}
	number := func() int64 { return r.Int63n(4) - 1 }
	random := func(table int) api.Row {
		if table == 2 {
			return ints(number(), number())
		}
		return rowA(number(), texts[r.Intn(3)], number())
	}
	count := map[api.Errno]int{}
	st := store.New(s)
	for range 6000 {
		var l []api.Change
		used := map[[2]int64]bool{}
		ok := true
		for range 1 + r.Intn(3) {
			c := api.Change{Table: r.Intn(3), ID: 1 + r.Int63n(4)}
			if k := [2]int64{int64(c.Table), c.ID}; used[k] {
				continue
			} else {
				used[k] = true
			}
			c.Old, _ = st.Table(c.Table).Get(c.ID)
			if r.Intn(3) > 0 || c.Old == nil {
				c.New = random(c.Table)
				ok = ok && Row(s[c.Table], c.New) == api.OK
			}
			l = append(l, c)
		}
		mustApply(t, st, l)
		e := Changes(s, st, l)
		r.Shuffle(len(l), func(a, b int) { l[a], l[b] = l[b], l[a] })
		if again := Changes(s, st, l); again != e {
			t.Fatalf("the order matters: %d and %d", e, again)
		}
		all := All(s, st)
		if (all == api.OK) != (ok && e == api.OK) {
			t.Fatalf("%v: All = %d, Changes = %d, possible: %v", l, all, e, ok)
		}
		count[all]++
		if all != api.OK {
			for _, c := range l {
				if st.Undo(c) != api.OK {
					t.Fatal("Undo")
				}
			}
		}
	}
	if count[api.OK] < 300 || count[api.ErrUnique] < 100 || count[api.ErrForeign] < 100 || count[api.ErrNull] < 100 {
		t.Errorf("counts: %v", count)
	}
}
