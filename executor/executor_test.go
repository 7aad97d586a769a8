package executor

import (
	"iter"
	"math/rand"
	"slices"
	"testing"

	"disjoint/api"
	"disjoint/binder"
	"disjoint/evaluate"
	"disjoint/parser"
	"disjoint/plan"
	"disjoint/planner"
	"disjoint/schema"
	"disjoint/store"
	"disjoint/value"
)

const tables = `
CREATE TABLE a (x INTEGER, y INTEGER, s TEXT, UNIQUE (x), UNIQUE (y, s));
CREATE TABLE b (k INTEGER, s TEXT, FOREIGN KEY (k) REFERENCES a (x));`

func build(t *testing.T) api.Schema {
	t.Helper()
	l, offset, e := parser.Script(tables)
	if e != api.OK {
		t.Fatalf("%d at %d", e, offset)
	}
	s, _, e := schema.Build(l)
	if e != api.OK {
		t.Fatal(e)
	}
	return s
}

func bind(t *testing.T, s api.Schema, text string) api.Bound {
	t.Helper()
	st, offset, e := parser.Statement(text)
	if e != api.OK {
		t.Fatalf("%q: %d at %d", text, e, offset)
	}
	b, e := binder.Bind(s, st)
	if e != api.OK {
		t.Fatalf("%q: %d", text, e)
	}
	return b
}

func randomStore(r *rand.Rand, s api.Schema, most int) *store.Store {
	st := store.New(s)
	number := func() api.Value {
		if r.Intn(5) == 0 {
			return api.Value{}
		}
		return value.Int(r.Int63n(4))
	}
	text := func() api.Value {
		return []api.Value{{}, value.Text(""), value.Text("p"), value.Text("q")}[r.Intn(4)]
	}
	for range r.Intn(most) {
		st.Table(0).Put(1+r.Int63n(30), api.Row{number(), number(), text()})
	}
	for range r.Intn(most) {
		st.Table(1).Insert(api.Row{number(), text()})
	}
	return st
}

// definition reads the rows that a statement selects off the tables.
func definition(st *store.Store, b api.Bound) []api.Row {
	l := []api.Row{nil}
	for _, table := range b.Tables {
		var longer []api.Row
		for _, r := range l {
			for _, q := range st.Bag(table).Rows() {
				longer = append(longer, slices.Concat(r, q))
			}
		}
		l = longer
	}
	l = slices.DeleteFunc(l, func(r api.Row) bool {
		return b.Statement.Where.Op != api.OpNone && evaluate.Condition(b.Statement.Where, r) != api.True
	})
	slices.SortFunc(l, value.CompareRows)
	return l
}

func sorted(s iter.Seq[api.Row]) []api.Row {
	l := slices.Collect(s)
	slices.SortFunc(l, value.CompareRows)
	return l
}

func equal(a, b []api.Row) bool {
	return slices.EqualFunc(a, b, func(x, y api.Row) bool { return value.CompareRows(x, y) == 0 })
}

var conditions = []string{"c.x = d.k", "c.x < d.k", "d.k >= 1", "c.y = 2", "c.s = d.s", "c.s < 'q'", "d.s >= 'p'", "c.x + d.k = 3", "c.x = NULL", "d.k = c.y", "c.y <= d.k", "c.x IS NULL", "c.s LIKE '%'", "1 = 2", "c.x > 0 AND c.x <= 2", "c.x = 1 OR d.k = 2", "NOT c.y = d.k", "2 >= d.k", "c.y = 1 AND c.s = 'p'", "d.k < NULL", "d.k = LENGTH(c.s)"}

// Every candidate, and the naive plan, finds the combinations for which the condition is True.
func TestPlans(t *testing.T) {
	s := build(t)
	r := rand.New(rand.NewSource(77))
	found := 0
	for range 250 {
		text := "SELECT * FROM a AS c, b AS d"
		for i := range r.Intn(4) {
			text += []string{" WHERE ", " AND "}[min(i, 1)] + conditions[r.Intn(len(conditions))]
		}
		b := bind(t, s, text)
		st := randomStore(r, s, 12)
		before := string(st.Encode())
		want := definition(st, b)
		found += len(want)
		if got := Naive(st, b); !equal(got, want) {
			t.Fatalf("%s: Naive = %v, want %v", text, got, want)
		}
		for _, p := range append(planner.Candidates(s, b), plan.Naive(b)) {
			if got := sorted(Rows(st, b, p)); !equal(got, want) || Count(st, b, p) != len(want) {
				t.Fatalf("%s: %s finds %v, want %v", text, plan.Format(s, b, p), got, want)
			}
		}
		if string(st.Encode()) != before {
			t.Fatal("the store is changed")
		}
	}
	if found < 500 {
		t.Errorf("only %d combinations", found)
	}
}

func TestMatches(t *testing.T) {
	s := build(t)
	r := rand.New(rand.NewSource(78))
	for range 200 {
		text := "DELETE FROM a"
		for i := range r.Intn(3) {
			text += []string{" WHERE ", " AND "}[min(i, 1)] + []string{"x = 1", "y >= 1", "s = 'p'", "x < y", "y < 3", "y = 2 AND s = 'q'", "x IS NULL", "x <= 2"}[r.Intn(8)]
		}
		b := bind(t, s, text)
		st := randomStore(r, s, 25)
		for _, p := range planner.Candidates(s, b) {
			last := int64(0)
			n := 0
			for id, row := range Matches(st, b, p) {
				stored, ok := st.Table(0).Get(id)
				if id <= last || !ok || value.CompareRows(row, stored) != 0 || !evaluate.Matches(b.Statement.Where, row) {
					t.Fatalf("%s: %s finds %d, %v", text, plan.Format(s, b, p), id, row)
				}
				last = id
				n++
			}
			if n != len(definition(st, b)) || n != Count(st, b, p) {
				t.Fatalf("%s: %s finds %d rows", text, plan.Format(s, b, p), n)
			}
		}
	}
}

func TestThreeSources(t *testing.T) {
	s := build(t)
	r := rand.New(rand.NewSource(79))
	for range 30 {
		b := bind(t, s, "SELECT * FROM b AS p, a AS q, b AS r WHERE p.k = q.x AND q.y <= r.k AND r.s = p.s")
		st := randomStore(r, s, 9)
		want := definition(st, b)
		for _, p := range planner.Candidates(s, b) {
			if got := sorted(Rows(st, b, p)); !equal(got, want) {
				t.Fatalf("%s finds %v, want %v", plan.Format(s, b, p), got, want)
			}
		}
	}
}

func TestExample(t *testing.T) {
	s := build(t)
	st := store.New(s)
	st.Table(1).Insert(api.Row{value.Int(1), value.Text("a")})
	st.Table(1).Insert(api.Row{value.Int(2), value.Text("b")})
	b := bind(t, s, "SELECT * FROM b AS x, b AS y WHERE x.k < y.k")
	want := []api.Row{{value.Int(1), value.Text("a"), value.Int(2), value.Text("b")}}
	for _, p := range planner.Candidates(s, b) {
		if got := slices.Collect(Rows(st, b, p)); !equal(got, want) {
			t.Errorf("%s finds %v", plan.Format(s, b, p), got)
		}
	}
	// Equal rows are counted separately.
	st.Table(1).Insert(api.Row{value.Int(2), value.Text("b")})
	if n := Count(st, b, plan.Naive(b)); n != 2 || len(Naive(st, b)) != 2 {
		t.Errorf("%d combinations", n)
	}
}

// A source without rows, wherever it stands, leads to no combinations.
func TestEmptySources(t *testing.T) {
	s := build(t)
	st := store.New(s)
	st.Table(1).Insert(api.Row{value.Int(1), value.Text("a")})
	for _, text := range []string{"SELECT * FROM a, b", "SELECT * FROM b, a WHERE k = 1", "SELECT * FROM a AS c, b, a AS d WHERE c.x = k AND k > d.x", "SELECT * FROM a", "DELETE FROM a WHERE x = 1"} {
		b := bind(t, s, text)
		for _, p := range planner.Candidates(s, b) {
			if got := slices.Collect(Rows(st, b, p)); len(got) != 0 || Count(st, b, p) != 0 || len(Naive(st, b)) != 0 {
				t.Errorf("%s: %v", text, got)
			}
		}
	}
}

// Iterators yield what the store contained when an iteration began.
func TestIterators(t *testing.T) {
	s := build(t)
	six := func() *store.Store {
		st := store.New(s)
		for i := range int64(6) {
			st.Table(1).Insert(api.Row{value.Int(i), value.Text("a")})
		}
		return st
	}
	b := bind(t, s, "SELECT * FROM b AS x, b AS y WHERE x.k = y.k")
	for _, p := range planner.Candidates(s, b) {
		st := six()
		rows := Rows(st, b, p)
		want := slices.Collect(rows)
		var got []api.Row
		for r := range rows {
			got = append(got, slices.Clone(r))
			r[0] = value.Text("spoilt")
			for id := range int64(20) {
				st.Table(1).Delete(id)
			}
			st.Table(1).Put(50, api.Row{value.Int(2), value.Text("b")})
		}
		if !equal(got, want) || len(got) != 6 {
			t.Errorf("%s yields %v", plan.Format(s, b, p), got)
		}
		if again := slices.Collect(rows); len(again) != 1 {
			t.Errorf("the second iteration yields %v", again)
		}
	}
	st := six()
	d := bind(t, s, "DELETE FROM b WHERE k > 1")
	n := 0
	matches := Matches(st, d, plan.Naive(d))
	for id, r := range matches {
		r[0] = value.Int(0)
		st.Table(1).Delete(id + 1)
		n++
		if n == 3 {
			break
		}
	}
	count := 0
	for range matches {
		count++
	}
	if n != 3 || count != 4-3 {
		t.Errorf("Matches yields %d and %d rows", n, count)
	}
	for r := range Rows(st, d, plan.Naive(d)) {
		r[0] = value.Int(77)
		break
	}
	if slices.ContainsFunc(st.Bag(1).Rows(), func(r api.Row) bool { return r[0] == value.Int(77) }) {
		t.Error("a row shares memory with the store")
	}
}
