package transaction

import (
	"math/rand"
	"reflect"
	"slices"
	"testing"

	"disjoint/api"
	"disjoint/binder"
	"disjoint/constraint"
	"disjoint/dml"
	"disjoint/footprint"
	"disjoint/parser"
	"disjoint/schema"
	"disjoint/store"
	"disjoint/value"
)

const tables = `
CREATE TABLE t (x INTEGER(0, 9), y INTEGER(0, 99), UNIQUE (x), CHECK (x <> 5 OR y > 50));
CREATE TABLE u (k INTEGER, l INTEGER(0, 9), FOREIGN KEY (l) REFERENCES t (x));
CREATE TABLE w (a INTEGER(0, 9), UNIQUE (a));`

func build(t *testing.T) api.Schema {
	t.Helper()
	l, offset, e := parser.Script(tables)
	if e != api.OK {
		t.Fatalf("%d at %d", e, offset)
	}
	s, _, e := schema.Build(l)
	if e != api.OK {
		t.Fatal(e)
	}
	s, e = binder.Schema(s)
	if e != api.OK {
		t.Fatal(e)
	}
	return s
}

func bind(t *testing.T, s api.Schema, text string) api.Bound {
	t.Helper()
	st, offset, e := parser.Statement(text)
	if e != api.OK {
		t.Fatalf("%q: %d at %d", text, e, offset)
	}
	b, e := binder.Bind(s, st)
	if e != api.OK {
		t.Fatalf("%q: %d", text, e)
	}
	return b
}

// run executes statements that must succeed.
func run(t *testing.T, s api.Schema, tx *Transaction, texts ...string) {
	t.Helper()
	for _, text := range texts {
		if _, _, e := tx.Execute(bind(t, s, text)); e != api.OK {
			t.Fatalf("%s: %d", text, e)
		}
	}
}

// numbered are the rows of a store by table and number.
type numbered map[[2]int64]string

func contents(s api.Schema, st *store.Store) numbered {
	m := numbered{}
	for table := range s {
		for id, r := range st.Table(table).All() {
			m[[2]int64{int64(table), id}] = value.FormatRow(r)
		}
	}
	return m
}

func ints(l ...int64) api.Row {
	r := api.Row{}
	for _, n := range l {
		r = append(r, value.Int(n))
	}
	return r
}

func sameRows(a, b []api.Row) bool {
	return slices.EqualFunc(a, b, slices.Equal[api.Row])
}

func TestExample(t *testing.T) {
	s := build(t)
	st := store.New(s)
	tx := Begin(7, s, st)
	if tx.Number() != 7 || tx.Ended() || tx.Net() != nil || tx.Check() != api.OK {
		t.Fatalf("%d %v %v %d", tx.Number(), tx.Ended(), tx.Net(), tx.Check())
	}
	run(t, s, tx, "INSERT INTO w VALUES (1)", "SAVEPOINT a", "DELETE FROM w", "ROLLBACK TO a")
	want := []api.Change{{Table: 2, ID: 1, New: ints(1)}}
	if got := tx.Net(); !reflect.DeepEqual(got, want) {
		t.Fatalf("net %v", got)
	}
	got, e := tx.Commit()
	if e != api.OK || !reflect.DeepEqual(got, want) || !tx.Ended() || tx.Net() != nil {
		t.Fatalf("%v %d %v %v", got, e, tx.Ended(), tx.Net())
	}
	if r, ok := st.Table(2).Get(1); !ok || !slices.Equal(r, ints(1)) {
		t.Fatalf("%v %v", r, ok)
	}
}

func TestResults(t *testing.T) {
	s := build(t)
	st := store.New(s)
	tx := Begin(1, s, st)
	steps := []struct {
		text    string
		rows    []api.Row
		changes []api.Change
		err     api.Errno
	}{
		{"INSERT INTO t VALUES (1, 10), (2, 20)", nil, []api.Change{{Table: 0, ID: 1, New: ints(1, 10)}, {Table: 0, ID: 2, New: ints(2, 20)}}, api.OK},
		{"SELECT y FROM t WHERE x = 2", []api.Row{ints(20)}, nil, api.OK},
		{"SELECT y FROM t WHERE x = 3", nil, nil, api.OK},
		{"INSERT INTO t VALUES (3, 10), (5, 20), (7, 100)", nil, nil, api.ErrRange},
		{"INSERT INTO t VALUES (3, 10), (5, 20)", nil, nil, api.ErrCheck},
		{"UPDATE t SET y = y + 1", nil, []api.Change{{Table: 0, ID: 1, Old: ints(1, 10), New: ints(1, 11)}, {Table: 0, ID: 2, Old: ints(2, 20), New: ints(2, 21)}}, api.OK},
		{"UPDATE t SET x = x + 3", nil, nil, api.ErrCheck},
		{"UPDATE t SET x = x", nil, []api.Change{{Table: 0, ID: 1, Old: ints(1, 11), New: ints(1, 11)}, {Table: 0, ID: 2, Old: ints(2, 21), New: ints(2, 21)}}, api.OK},
		{"SAVEPOINT p", nil, nil, api.OK},
		{"DELETE FROM t WHERE x = 1", nil, []api.Change{{Table: 0, ID: 1, Old: ints(1, 11)}}, api.OK},
		{"DELETE FROM t WHERE x = 1", nil, nil, api.OK},
		{"ROLLBACK TO q", nil, nil, api.ErrNotFound},
		{"RELEASE q", nil, nil, api.ErrNotFound},
		{"ROLLBACK TO p", nil, nil, api.OK},
		{"ROLLBACK TO p", nil, nil, api.OK},
		{"SELECT x FROM t ORDER BY 1", []api.Row{ints(1), ints(2)}, nil, api.OK},
		{"RELEASE p", nil, nil, api.OK},
		{"ROLLBACK TO p", nil, nil, api.ErrNotFound},
	}
	for _, step := range steps {
		rows, changes, e := tx.Execute(bind(t, s, step.text))
		if e != step.err || !sameRows(rows, step.rows) || !reflect.DeepEqual(changes, step.changes) {
			t.Errorf("%s: %v, %v, %d", step.text, rows, changes, e)
		}
	}
}

// A statement whose footprint is too large fails with this error, also if its rows are not possible.
func TestTooLarge(t *testing.T) {
	s := build(t)
	st := store.New(s)
	tx := Begin(1, s, st)
	run(t, s, tx, "INSERT INTO t VALUES (9, 10)")
	before := contents(s, st)
	for _, text := range []string{
		"SELECT * FROM t WHERE x < -(1048576 * 1048576)",
		"SELECT * FROM t WHERE x < -(1048576 * 1048576) OR x >= 0",
		"UPDATE t SET x = x + 1 WHERE x < -(1048576 * 1048576) OR x >= 0",
		"DELETE FROM t WHERE x < -(1048576 * 1048576) OR x >= 0",
	} {
		b := bind(t, s, text)
		if _, e := footprint.Statement(s, b); e != api.ErrTooLarge {
			t.Fatalf("%s: the footprint is not too large: %d", text, e)
		}
		if rows, changes, e := tx.Execute(b); rows != nil || changes != nil || e != api.ErrTooLarge {
			t.Errorf("%s: %v %v %d", text, rows, changes, e)
		}
	}
	if !reflect.DeepEqual(contents(s, st), before) || len(tx.Net()) != 1 {
		t.Error("a statement that failed had an effect")
	}
}

func TestErrors(t *testing.T) {
	s := build(t)
	st := store.New(s)
	tx := Begin(1, s, st)
	kinds := []int{-1, 0, api.StmtCreate, api.StmtBegin, api.StmtCommit, api.StmtRollback, 12}
	for _, kind := range kinds {
		if _, _, e := tx.Execute(api.Bound{Statement: api.Statement{Kind: kind}}); e != api.ErrInvalid {
			t.Errorf("kind %d: %d", kind, e)
		}
	}
	if _, _, e := tx.Execute(api.Bound{Statement: api.Statement{Kind: api.StmtSavepoint}}); e != api.ErrInvalid {
		t.Errorf("a savepoint without a name: %d", e)
	}
	tx.Rollback()
	for _, kind := range append(kinds, api.StmtSavepoint, api.StmtRollbackTo, api.StmtRelease) {
		if _, _, e := tx.Execute(api.Bound{Statement: api.Statement{Kind: kind, Name: "a"}}); e != api.ErrState {
			t.Errorf("kind %d after the end: %d", kind, e)
		}
	}
	for _, text := range []string{"SELECT * FROM t", "INSERT INTO w VALUES (1)", "UPDATE t SET x = 1", "DELETE FROM t"} {
		if _, _, e := tx.Execute(bind(t, s, text)); e != api.ErrState {
			t.Errorf("%s after the end: %d", text, e)
		}
	}
	if len(contents(s, st)) != 0 {
		t.Error("a transaction that has ended changed the store")
	}
}

func TestCheck(t *testing.T) {
	s := build(t)
	st := store.New(s)
	first := Begin(1, s, st)
	run(t, s, first, "INSERT INTO t VALUES (1, 1), (2, 2)", "INSERT INTO u VALUES (1, 1)")
	if _, e := first.Commit(); e != api.OK {
		t.Fatal(e)
	}
	for text, want := range map[string]api.Errno{
		"INSERT INTO t VALUES (1, 3)": api.ErrUnique,
		"UPDATE t SET x = 2":          api.ErrUnique,
		"INSERT INTO u VALUES (1, 3)": api.ErrForeign,
		"DELETE FROM t WHERE x = 1":   api.ErrForeign,
		"DELETE FROM t WHERE x = 2":   api.OK,
		"UPDATE t SET x = 3 - x":      api.OK,
	} {
		before := contents(s, st)
		tx := Begin(2, s, st)
		run(t, s, tx, "SAVEPOINT a", text)
		net := tx.Net()
		if e := tx.Check(); e != want || tx.Ended() {
			t.Errorf("%s: check %d %v", text, e, tx.Ended())
		}
		if want != api.OK {
			if l, e := tx.Commit(); l != nil || e != want || tx.Ended() || !reflect.DeepEqual(tx.Net(), net) {
				t.Errorf("%s: commit %v %d %v", text, l, e, tx.Ended())
			}
			// The transaction is still active, and can repair what is wrong.
			run(t, s, tx, "ROLLBACK TO a")
		}
		if e := tx.Check(); e != api.OK {
			t.Errorf("%s: check after the repair: %d", text, e)
		}
		tx.Rollback()
		if !reflect.DeepEqual(contents(s, st), before) {
			t.Errorf("%s: the rows were not restored", text)
		}
	}
}

func TestEnd(t *testing.T) {
	s := build(t)
	st := store.New(s)
	tx := Begin(3, s, st)
	run(t, s, tx, "INSERT INTO w VALUES (1)", "SAVEPOINT a")
	if _, e := tx.Commit(); e != api.OK {
		t.Fatal(e)
	}
	tx.Rollback()
	if l, e := tx.Commit(); l != nil || e != api.ErrState || tx.Check() != api.ErrState || tx.Number() != 3 {
		t.Errorf("%v %d %d", l, e, tx.Check())
	}
	if len(contents(s, st)) != 1 || !tx.Ended() {
		t.Error("Rollback had an effect on a committed transaction")
	}
	tx = Begin(4, s, st)
	run(t, s, tx, "UPDATE w SET a = 2", "SAVEPOINT a", "SAVEPOINT b", "DELETE FROM w", "INSERT INTO w VALUES (3)")
	tx.Rollback()
	tx.Rollback()
	if r, ok := st.Table(2).Get(1); !tx.Ended() || tx.Net() != nil || tx.Check() != api.ErrState || len(contents(s, st)) != 1 || !ok || !slices.Equal(r, ints(1)) {
		t.Errorf("%v %v %v", tx.Ended(), r, ok)
	}
}

// perform applies net changes to rows.
func perform(m numbered, l []api.Change) numbered {
	r := numbered{}
	for k, row := range m {
		r[k] = row
	}
	for _, c := range l {
		k := [2]int64{int64(c.Table), c.ID}
		if c.New == nil {
			delete(r, k)
		} else {
			r[k] = value.FormatRow(c.New)
		}
	}
	return r
}

// point is a savepoint and the rows at it.
type point struct {
	name string
	rows numbered
}

// model executes random statements and remembers the rows at the savepoints.
type model struct {
	t      *testing.T
	s      api.Schema
	st     *store.Store
	tx     *Transaction
	points []point
}

// returnTo returns to, or releases, the savepoint at a position.
func (m *model) returnTo(i int, release bool) {
	name, rows := m.points[i].name, m.points[i].rows
	if release {
		before := contents(m.s, m.st)
		run(m.t, m.s, m.tx, "RELEASE "+name)
		m.points = m.points[:i]
		rows = before
	} else {
		run(m.t, m.s, m.tx, "ROLLBACK TO "+name)
		m.points = m.points[:i+1]
	}
	if !reflect.DeepEqual(contents(m.s, m.st), rows) {
		m.t.Fatalf("the rows at savepoint %s differ", name)
	}
}

func (m *model) save(name string) {
	run(m.t, m.s, m.tx, "SAVEPOINT "+name)
	m.points = slices.DeleteFunc(m.points, func(p point) bool { return p.name == name })
	m.points = append(m.points, point{name, contents(m.s, m.st)})
}

// change executes a statement and compares it with layer 48.
func (m *model) change(text string) {
	b := bind(m.t, m.s, text)
	before := contents(m.s, m.st)
	want, wantErr := dml.Preview(m.s, m.st, b)
	rows, got, e := m.tx.Execute(b)
	if rows != nil || e != wantErr || !reflect.DeepEqual(got, want) {
		m.t.Fatalf("%s: %v, %d instead of %v, %d", text, got, e, want, wantErr)
	}
	if !reflect.DeepEqual(contents(m.s, m.st), perform(before, got)) {
		m.t.Fatalf("%s: other changes were performed", text)
	}
}

// query executes a SELECT statement twice.
func (m *model) query(text string) {
	b := bind(m.t, m.s, text)
	want, _ := dml.Select(m.s, m.st, b)
	for range 2 {
		rows, changes, e := m.tx.Execute(b)
		if e != api.OK || changes != nil || !reflect.DeepEqual(rows, want) {
			m.t.Fatalf("%s: %v, %d instead of %v", text, rows, e, want)
		}
	}
}

func (m *model) step(r *rand.Rand) {
	changes := []string{"INSERT INTO t VALUES (1, 60)", "INSERT INTO t VALUES (2, 3), (5, 70)", "INSERT INTO u VALUES (1, 2), (2, 5)", "INSERT INTO w VALUES (4)", "INSERT INTO w VALUES (4), (10)",
		"UPDATE t SET x = x + 1", "UPDATE t SET y = y + 20 WHERE x < 4", "UPDATE u SET l = k", "UPDATE w SET a = 9 - a", "DELETE FROM t WHERE x > 6", "DELETE FROM w", "DELETE FROM u WHERE l = 5", "UPDATE t SET x = 5"}
	names := []string{"a", "b", "c"}
	switch k := r.Intn(20); {
	case k < 12:
		m.change(changes[r.Intn(len(changes))])
	case k < 14:
		m.query([]string{"SELECT x, SUM(y) FROM t GROUP BY x ORDER BY 1", "SELECT * FROM t, u WHERE x = l", "SELECT COUNT(*) FROM w"}[r.Intn(3)])
	case k < 17 || len(m.points) == 0:
		m.save(names[r.Intn(3)])
	default:
		m.returnTo(r.Intn(len(m.points)), k == 17)
	}
}

func TestRandom(t *testing.T) {
	s := build(t)
	r := rand.New(rand.NewSource(82))
	st := store.New(s)
	committed, failed := 0, 0
	for number := range int64(300) {
		before := contents(s, st)
		m := &model{t: t, s: s, st: st, tx: Begin(number, s, st)}
		for range 1 + r.Intn(12) {
			m.step(r)
			if got := perform(before, m.tx.Net()); !reflect.DeepEqual(got, contents(s, st)) {
				t.Fatal("the net changes do not yield the current rows")
			}
		}
		want, now, net := constraint.Changes(s, st, m.tx.Net()), contents(s, st), m.tx.Net()
		if e := m.tx.Check(); e != want {
			t.Fatalf("check %d instead of %d", e, want)
		}
		if r.Intn(3) > 0 {
			l, e := m.tx.Commit()
			if e != want || e == api.OK && !reflect.DeepEqual(l, net) || m.tx.Ended() != (e == api.OK) || !reflect.DeepEqual(contents(s, st), now) {
				t.Fatalf("commit %v %d", l, e)
			}
			if e == api.OK {
				committed++
				continue
			}
			failed++
		}
		m.tx.Rollback()
		if !m.tx.Ended() || !reflect.DeepEqual(contents(s, st), before) {
			t.Fatal("the rows at the beginning were not restored")
		}
	}
	if e := constraint.All(s, st); e != api.OK {
		t.Fatal(e)
	}
	if committed < 30 || failed < 30 {
		t.Errorf("%d committed, %d failed", committed, failed)
	}
}

func TestSharing(t *testing.T) {
	s := build(t)
	st := store.New(s)
	tx := Begin(1, s, st)
	b := bind(t, s, "INSERT INTO w VALUES (1)")
	s[2].Columns[0].Name = "changed"
	s[2].Keys = nil
	_, l, _ := tx.Execute(b)
	b.Rows[0][0] = value.Int(5)
	l[0].New[0] = value.Int(6)
	tx.Net()[0].New[0] = value.Int(7)
	want := []api.Change{{Table: 2, ID: 1, New: ints(1)}}
	if got := tx.Net(); !reflect.DeepEqual(got, want) {
		t.Fatalf("%v", got)
	}
	rows, _, _ := tx.Execute(bind(t, build(t), "SELECT * FROM w"))
	rows[0][0] = value.Int(8)
	tx.Execute(bind(t, build(t), "INSERT INTO w VALUES (1)"))
	if e := tx.Check(); e != api.ErrUnique {
		t.Errorf("the schema is shared: %d", e)
	}
	tx.Execute(bind(t, build(t), "DELETE FROM w"))
	tx.Execute(bind(t, build(t), "INSERT INTO w VALUES (1)"))
	committed, e := tx.Commit()
	if e != api.OK {
		t.Fatal(e)
	}
	committed[0].New[0] = value.Int(9)
	if r, _ := st.Table(2).Get(3); !slices.Equal(r, ints(1)) {
		t.Errorf("%v", r)
	}
}
