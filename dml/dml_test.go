package dml

import (
	"math/rand"
	"reflect"
	"slices"
	"testing"

	"disjoint/aggregate"
	"disjoint/api"
	"disjoint/binder"
	"disjoint/constraint"
	"disjoint/evaluate"
	"disjoint/executor"
	"disjoint/image"
	"disjoint/parser"
	"disjoint/schema"
	"disjoint/store"
	"disjoint/value"
)

const tables = `
CREATE TABLE t (x INTEGER(0, 9), y INTEGER(0, 99) NOT NULL, s TEXT(4), UNIQUE (x), CHECK (x <> 5 OR y > 50));
CREATE TABLE u (k INTEGER, l INTEGER(0, 3), FOREIGN KEY (l) REFERENCES t (x));
CREATE TABLE v (x INTEGER(0, 9) NOT NULL);`

func build(t *testing.T) api.Schema {
	t.Helper()
	l, offset, e := parser.Script(tables)
	if e != api.OK {
		t.Fatalf("%d at %d", e, offset)
	}
	s, _, e := schema.Build(l)
	if e != api.OK {
		t.Fatal(e)
	}
	s, e = binder.Schema(s)
	if e != api.OK {
		t.Fatal(e)
	}
	return s
}

func bind(t *testing.T, s api.Schema, text string) api.Bound {
	t.Helper()
	st, offset, e := parser.Statement(text)
	if e != api.OK {
		t.Fatalf("%q: %d at %d", text, e, offset)
	}
	b, e := binder.Bind(s, st)
	if e != api.OK {
		t.Fatalf("%q: %d", text, e)
	}
	return b
}

func change(t *testing.T, s api.Schema, st *store.Store, text string) []api.Change {
	t.Helper()
	l, e := Change(s, st, bind(t, s, text))
	if e != api.OK {
		t.Fatalf("%s: %d", text, e)
	}
	return l
}

func query(t *testing.T, s api.Schema, st *store.Store, text string) string {
	t.Helper()
	l, e := Select(s, st, bind(t, s, text))
	if e != api.OK {
		t.Fatalf("%s: %d", text, e)
	}
	result := ""
	for _, r := range l {
		result += value.FormatRow(r)
	}
	return result
}

func TestStatements(t *testing.T) {
	s := build(t)
	st := store.New(s)
	l := change(t, s, st, "INSERT INTO t VALUES (1, 10, 'a'), (NULL, 20, NULL), (5, 60, 'b')")
	want := []api.Change{{ID: 1, New: api.Row{value.Int(1), value.Int(10), value.Text("a")}}, {ID: 2, New: api.Row{{}, value.Int(20), {}}}, {ID: 3, New: api.Row{value.Int(5), value.Int(60), value.Text("b")}}}
	if !reflect.DeepEqual(l, want) || Count(l) != 3 {
		t.Errorf("changes: %v", l)
	}
	if got := query(t, s, st, "SELECT * FROM t"); got != "(NULL, 20, NULL)(1, 10, 'a')(5, 60, 'b')" {
		t.Errorf("rows: %s", got)
	}
	// Also rows that stay the same are changes, in ascending order of their numbers.
	l = change(t, s, st, "UPDATE t SET x = 1, y = y + 0 WHERE x = 1 OR y = 60")
	if len(l) != 2 || l[0].ID != 1 || l[1].ID != 3 || !slices.Equal(l[0].Old, l[0].New) || l[1].New[0] != value.Int(1) || l[1].Old[0] != value.Int(5) {
		t.Errorf("changes: %v", l)
	}
	l = change(t, s, st, "DELETE FROM t WHERE x = 1")
	if len(l) != 2 || l[0].New != nil || l[1].New != nil || l[1].Old[0] != value.Int(1) || st.Table(0).Len() != 1 {
		t.Errorf("changes: %v", l)
	}
	l = change(t, s, st, "INSERT INTO t VALUES (2, 0, '')")
	if l[0].ID != 4 {
		t.Errorf("changes: %v", l)
	}
	if l = change(t, s, st, "DELETE FROM u"); len(l) != 0 || Count(l) != 0 {
		t.Errorf("changes: %v", l)
	}
	if got := query(t, s, st, "SELECT COUNT(*), SUM(a.y) FROM t AS a, t AS b WHERE a.y <= b.y"); got != "(3, 20)" {
		t.Errorf("rows: %s", got)
	}
}

func TestErrors(t *testing.T) {
	s := build(t)
	st := store.New(s)
	change(t, s, st, "INSERT INTO t VALUES (3, 10, 'a'), (8, 20, 'b')")
	change(t, s, st, "INSERT INTO v VALUES (3), (8)")
	before := string(st.Encode())
	for text, want := range map[string]api.Errno{
		"UPDATE v SET x = x + 2": api.ErrRange, "UPDATE v SET x = NULL": api.ErrNull, "INSERT INTO v VALUES (1), (NULL), (12)": api.ErrNull, "INSERT INTO t VALUES (1, 1, ''), (12, 1, ''), (5, 1, '')": api.ErrRange, "INSERT INTO t VALUES (5, 1, 'x')": api.ErrCheck, "INSERT INTO t VALUES (1, 1, 'abcde')": api.ErrRange, "UPDATE t SET x = 5": api.ErrCheck, "UPDATE t SET y = NULL, x = 77": api.ErrNull, "UPDATE t SET x = x + 2, y = y + 80 WHERE x = 3": api.OK,
		"SELECT * FROM t": api.ErrInvalid, "BEGIN": api.ErrInvalid, "SAVEPOINT a": api.ErrInvalid,
	} {
		b := bind(t, s, text)
		l, e := Preview(s, st, b)
		if e != want || e != api.OK && l != nil || string(st.Encode()) != before {
			t.Errorf("Preview of %s: %v, %d", text, l, e)
		}
		c := st.Copy()
		l, e = Change(s, c, b)
		if e != want || e != api.OK && (l != nil || string(c.Encode()) != before) {
			t.Errorf("Change of %s: %v, %d", text, l, e)
		}
	}
	for _, text := range []string{"BEGIN", "DELETE FROM t", "INSERT INTO v VALUES (1)", "UPDATE v SET x = 1"} {
		if l, e := Select(s, st, bind(t, s, text)); l != nil || e != api.ErrInvalid {
			t.Errorf("Select of %s: %v, %d", text, l, e)
		}
	}
}

func randomStatement(r *rand.Rand) string {
	conditions := []string{"x = 1", "x > y", "y < 30", "s = 'a'", "s IS NULL", "x % 2 = 0", "x >= 2 AND x <= 6", "NULL", "y = 10 AND s < 'b'", "x IS NULL OR y = 7"}
	where := ""
	if r.Intn(6) > 0 {
		where = " WHERE " + conditions[r.Intn(len(conditions))]
	}
	switch r.Intn(5) {
	case 0, 1:
		return "INSERT INTO t VALUES (" + []string{"1", "NULL", "7", "5", "2"}[r.Intn(5)] + ", " + []string{"10", "7", "60", "0"}[r.Intn(4)] + ", 'a'), (3, 7, NULL)"
	case 2:
		return "DELETE FROM t" + where
	}
	return "UPDATE t SET " + []string{"x = x + 1", "y = y + 10", "s = NULL, x = 2", "x = y / 10", "s = 'c'", "x = 5, y = 55"}[r.Intn(6)] + where
}

// After a change all rows are possible; undoing the changes restores the rows; and the naive execution agrees.
func TestRandom(t *testing.T) {
	s := build(t)
	r := rand.New(rand.NewSource(81))
	st := store.New(s)
	failed, changed := 0, 0
	for range 1500 {
		b := bind(t, s, randomStatement(r))
		before := st.Bag(0)
		numbers := string(st.Encode())
		preview, e := Preview(s, st, b)
		if string(st.Encode()) != numbers {
			t.Fatal("Preview changes the store")
		}
		l, e2 := Change(s, st, b)
		if e != e2 || !reflect.DeepEqual(l, preview) {
			t.Fatalf("Preview = %v, %d; Change = %v, %d", preview, e, l, e2)
		}
		if b.Statement.Kind != api.StmtInsert {
			want := 0
			for _, row := range before.Rows() {
				if evaluate.Matches(b.Statement.Where, row) {
					want++
				}
			}
			if e == api.OK && (len(l) != want || Count(l) != want) {
				t.Fatalf("%d changes, want %d", len(l), want)
			}
		}
		last := int64(0)
		for _, c := range l {
			if c.ID <= last || c.Table != 0 {
				t.Fatalf("changes: %v", l)
			}
			last = c.ID
			if c.New != nil && c.Old != nil {
				if row, _ := image.Assign(s[0], b.Statement.Sets, c.Old); value.CompareRows(row, c.New) != 0 {
					t.Fatalf("%v becomes %v", c.Old, c.New)
				}
			}
		}
		for _, row := range st.Bag(0).Rows() {
			if constraint.Row(s[0], row) != api.OK {
				t.Fatalf("%v is not possible", row)
			}
		}
		if e != api.OK {
			failed++
		} else if len(l) > 0 {
			changed++
		}
		if r.Intn(2) == 0 {
			for _, c := range slices.Backward(l) {
				if st.Undo(c) != api.OK {
					t.Fatal("Undo")
				}
			}
			if !st.Bag(0).Equal(before) {
				t.Fatal("the rows are not restored")
			}
		}
		checkQuery(t, s, st, r)
		if st.Table(0).Len() > 30 {
			change(t, s, st, "DELETE FROM t")
		}
	}
	if failed < 50 || changed < 300 {
		t.Errorf("%d errors, %d changes", failed, changed)
	}
}

// checkQuery compares the result of a query with that of the naive execution, also for other numbers of the rows.
func checkQuery(t *testing.T, s api.Schema, st *store.Store, r *rand.Rand) {
	t.Helper()
	text := []string{"SELECT * FROM t ORDER BY 2 LIMIT 3", "SELECT s, COUNT(*), SUM(y) FROM t GROUP BY s", "SELECT a.x, b.y FROM t AS a, t AS b WHERE a.x = b.x AND a.y < b.y", "SELECT MAX(y) FROM t WHERE x >= 2 AND x < 7"}[r.Intn(4)]
	b := bind(t, s, text)
	got, e := Select(s, st, b)
	if want := aggregate.Result(b, slices.Values(executor.Naive(st, b))); e != api.OK || !reflect.DeepEqual(got, want) {
		t.Fatalf("%s: %v, %d, want %v", text, got, e, want)
	}
	other := store.New(s)
	rows := st.Bag(0).Rows()
	r.Shuffle(len(rows), func(i, j int) { rows[i], rows[j] = rows[j], rows[i] })
	for i, row := range rows {
		other.Table(0).Put(int64(100-i), row)
	}
	if again, _ := Select(s, other, b); !reflect.DeepEqual(again, got) {
		t.Fatalf("%s: %v with other numbers, and %v", text, again, got)
	}
}

func TestCount(t *testing.T) {
	if n := Count([]api.Change{{ID: 1}, {ID: 2}, {ID: 1}, {Table: 1, ID: 1}, {Table: 1, ID: 1}}); n != 3 {
		t.Errorf("Count = %d", n)
	}
}

func TestNoSharing(t *testing.T) {
	s := build(t)
	st := store.New(s)
	b := bind(t, s, "INSERT INTO v VALUES (3)")
	l, _ := Change(s, st, b)
	l[0].New[0] = value.Int(9)
	if b.Rows[0][0] != value.Int(3) || query(t, s, st, "SELECT * FROM v") != "(3)" {
		t.Error("memory is shared")
	}
}
