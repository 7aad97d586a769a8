package serial

import (
	"math/rand"
	"reflect"
	"slices"
	"strconv"
	"strings"
	"testing"

	"disjoint/api"
	"disjoint/binder"
	"disjoint/constraint"
	"disjoint/parser"
	"disjoint/schema"
	"disjoint/session"
	"disjoint/store"
	"disjoint/transaction"
	"disjoint/value"
)

const tables = `
CREATE TABLE t (a INTEGER(0, 9), b INTEGER(0, 99), UNIQUE (a), CHECK (a <> 7 OR b > 50));
CREATE TABLE u (k INTEGER(0, 9), n TEXT(4), FOREIGN KEY (k) REFERENCES t (a));
CREATE TABLE w (x INTEGER(0, 9) NOT NULL, y INTEGER(0, 9), UNIQUE (x, y));`

func build(t *testing.T, text string) api.Schema {
	t.Helper()
	l, offset, e := parser.Script(text)
	if e != api.OK {
		t.Fatalf("%d at %d", e, offset)
	}
	s, _, e := schema.Build(l)
	if e != api.OK {
		t.Fatal(e)
	}
	s, e = binder.Schema(s)
	if e != api.OK {
		t.Fatal(e)
	}
	return s
}

func parse(t *testing.T, text string) []api.Statement {
	t.Helper()
	l, offset, e := parser.Script(text)
	if e != api.OK {
		t.Fatalf("%q: %d at %d", text, e, offset)
	}
	return l
}

// text returns a short text for an outcome.
func text(o Outcome) string {
	s := ""
	if o.Errno != api.OK {
		s = "error " + strconv.Itoa(int(o.Errno)) + " "
	}
	if o.Count > 0 {
		s += strconv.Itoa(o.Count) + " "
	}
	for _, r := range o.Rows {
		s += value.FormatRow(r) + " "
	}
	return s
}

// perform executes a transaction, and checks its outcomes and whether it is committed.
func perform(t *testing.T, d *Database, script string, committed bool, want ...string) {
	t.Helper()
	l := parse(t, script)
	got, ok := d.Transaction(l)
	if len(got) != len(l) || ok != committed {
		t.Fatalf("%s: %d outcomes, committed: %v", script, len(got), ok)
	}
	for i, o := range got {
		w := ""
		if i < len(want) {
			w = want[i]
		}
		if w != "" {
			w += " "
		}
		if text(o) != w {
			t.Fatalf("%s: %d: %q instead of %q", script, i, text(o), w)
		}
	}
}

func contents(d *Database, table int) string {
	s := ""
	for _, r := range d.Bag(table).Rows() {
		s += value.FormatRow(r)
	}
	return s
}

func TestExample(t *testing.T) {
	d := New(build(t, "CREATE TABLE t (a INTEGER, UNIQUE (a));"))
	perform(t, d, "BEGIN; INSERT INTO t VALUES (1); INSERT INTO t VALUES (1); COMMIT;", false, "", "1", "1", "")
	if got := contents(d, 0); got != "" {
		t.Error(got)
	}
	perform(t, d, "BEGIN; INSERT INTO t VALUES (1); INSERT INTO t VALUES (1); DELETE FROM t; INSERT INTO t VALUES (1); COMMIT;", true, "", "1", "1", "2", "1", "")
	if got := contents(d, 0); got != "(1)" {
		t.Error(got)
	}
}

func TestStatements(t *testing.T) {
	d := New(build(t, tables))
	perform(t, d, "BEGIN; INSERT INTO t VALUES (1, 10), (2, 20), (3, 30); UPDATE t SET b = b + a WHERE a >= 2; SELECT * FROM t; DELETE FROM t WHERE b = 33; SELECT a FROM t ORDER BY 1 DESC; COMMIT;", true,
		"", "3", "2", "(1, 10) (2, 22) (3, 33)", "1", "(2) (1)", "")
	perform(t, d, "INSERT INTO u VALUES (1, 'x'), (2, 'y'), (NULL, NULL), (1, 'z');", true, "4")
	perform(t, d, "SELECT n, b FROM u JOIN t ON k = a WHERE b < 50 ORDER BY 2 DESC;", true, "('y', 22) ('x', 10) ('z', 10)")
	perform(t, d, "SELECT COUNT(*), SUM(k), MIN(n) FROM u;", true, "(4, 4, 'x')")
	perform(t, d, "SELECT k, COUNT(*) FROM u, t GROUP BY k LIMIT 2;", true, "(NULL, 2) (1, 4)")
	perform(t, d, "SELECT COUNT(*) FROM u, t, w;", true, "(0)")
	perform(t, d, "UPDATE u SET n = 'x';", true, "4")
	perform(t, d, "UPDATE u SET n = 'q' WHERE n = 'nn';", true)
	perform(t, d, "DELETE FROM u WHERE k = 1;", true, "2")
	if got := contents(d, 1); got != "(NULL, 'x')(2, 'x')" {
		t.Error(got)
	}
}

func TestErrors(t *testing.T) {
	d := New(build(t, tables))
	perform(t, d, "INSERT INTO w VALUES (0, 0);", true, "1")
	for _, c := range []struct{ script, want string }{
		{"CREATE TABLE z (a INTEGER);", "error 13"},
		{"COMMIT;", "error 13"},
		{"ROLLBACK;", "error 13"},
		{"BEGIN;", ""},
		{"ROLLBACK TO s;", "error 4"},
		{"RELEASE s;", "error 4"},
		{"SAVEPOINT s;", ""},
		{"SELECT * FROM z;", "error 4"},
		{"SELECT z FROM t;", "error 4"},
		{"UPDATE t SET a = 'x';", "error 6"},
		{"DELETE FROM t WHERE a = 'x';", "error 6"},
		{"SELECT * FROM t WHERE a < -(1048576 * 1048576);", "error 3"},
		{"DELETE FROM t WHERE a < -(1048576 * 1048576);", "error 3"},
		{"INSERT INTO w VALUES (NULL, 1);", "error 8"},
		{"INSERT INTO w VALUES (10, 1), (NULL, 1);", "error 8"},
		{"INSERT INTO w VALUES (1, 1), (10, 1);", "error 9"},
		{"INSERT INTO t VALUES (7, 1), (10, 1);", "error 9"},
		{"INSERT INTO t VALUES (1, 1), (7, 1);", "error 10"},
		{"UPDATE w SET x = y - 1;", "error 9"},
		{"UPDATE w SET x = NULL;", "error 8"},
		{"INSERT INTO t VALUES (1, 1);", "1"},
		{"UPDATE t SET a = 7;", "error 10"},
	} {
		perform(t, d, c.script, true, c.want)
	}
	if contents(d, 0) != "(1, 1)" || contents(d, 1) != "" || contents(d, 2) != "(0, 0)" {
		t.Error("a statement with an error had an effect")
	}
	// The execution goes on after an error.
	perform(t, d, "BEGIN; INSERT INTO t VALUES (7, 1); INSERT INTO t VALUES (2, 2); SELECT a FROM t; COMMIT;", true, "", "error 10", "1", "(1) (2)", "")
}

// Only a transaction that begins with BEGIN ends explicitly.
func TestEnds(t *testing.T) {
	d := New(build(t, tables))
	perform(t, d, "BEGIN; INSERT INTO t VALUES (1, 1); ROLLBACK;", false, "", "1", "")
	perform(t, d, "BEGIN; INSERT INTO t VALUES (1, 1); BEGIN; COMMIT; ROLLBACK; COMMIT;", true, "", "1", "error 13", "error 13", "error 13", "")
	perform(t, d, "BEGIN; INSERT INTO t VALUES (2, 1);", true, "", "1")
	perform(t, d, "INSERT INTO t VALUES (3, 1); BEGIN; INSERT INTO t VALUES (4, 1); ROLLBACK;", true, "1", "error 13", "1", "error 13")
	perform(t, d, "INSERT INTO t VALUES (5, 1); COMMIT;", true, "1", "error 13")
	perform(t, d, "BEGIN; COMMIT;", true)
	perform(t, d, "BEGIN; ROLLBACK;", false)
	perform(t, d, "BEGIN; ROLLBACK; SELECT COUNT(*) FROM t;", true, "", "error 13", "(5)")
	if l, ok := d.Transaction(nil); len(l) > 0 || !ok {
		t.Error("a transaction without statements")
	}
	if got := contents(d, 0); got != "(1, 1)(2, 1)(3, 1)(4, 1)(5, 1)" {
		t.Error(got)
	}
}

func TestSavepoints(t *testing.T) {
	d := New(build(t, tables))
	perform(t, d, "BEGIN; INSERT INTO t VALUES (1, 1); SAVEPOINT a; INSERT INTO t VALUES (2, 1); SAVEPOINT b; INSERT INTO t VALUES (3, 1); ROLLBACK TO b; SELECT a FROM t; ROLLBACK TO a; SELECT a FROM t; ROLLBACK TO b; ROLLBACK TO a; COMMIT;", true,
		"", "1", "", "1", "", "1", "", "(1) (2)", "", "(1)", "error 4", "", "")
	// A savepoint with the same name replaces an earlier one.
	perform(t, d, "BEGIN; SAVEPOINT a; DELETE FROM t; SAVEPOINT b; SAVEPOINT a; INSERT INTO t VALUES (4, 1); ROLLBACK TO b; SELECT a FROM t; ROLLBACK TO a; COMMIT;", true,
		"", "", "1", "", "", "1", "", "", "error 4", "")
	perform(t, d, "BEGIN; SAVEPOINT a; INSERT INTO t VALUES (4, 1); SAVEPOINT b; SAVEPOINT c; RELEASE b; ROLLBACK TO c; ROLLBACK TO b; RELEASE b; SELECT a FROM t; RELEASE a; ROLLBACK TO a; COMMIT;", true,
		"", "", "1", "", "", "", "error 4", "error 4", "error 4", "(4)", "", "error 4", "")
	// Savepoints end with the transaction, and can be returned to several times.
	perform(t, d, "BEGIN; ROLLBACK TO a; SAVEPOINT a; DELETE FROM t; ROLLBACK TO a; DELETE FROM t; ROLLBACK TO a; COMMIT;", true,
		"", "error 4", "", "1", "", "1", "", "")
	if got := contents(d, 0); got != "(4, 1)" {
		t.Error(got)
	}
	// Also without BEGIN, and after a rollback.
	perform(t, d, "SAVEPOINT a; DELETE FROM t; ROLLBACK TO a;", true, "", "1", "")
	perform(t, d, "BEGIN; DELETE FROM t; SAVEPOINT a; ROLLBACK TO a; ROLLBACK;", false, "", "1", "", "", "")
	if got := contents(d, 0); got != "(4, 1)" {
		t.Error(got)
	}
}

func TestConstraints(t *testing.T) {
	d := New(build(t, tables))
	perform(t, d, "INSERT INTO t VALUES (1, 1), (2, 2), (NULL, 3), (NULL, 3);", true, "4")
	perform(t, d, "INSERT INTO t VALUES (2, 3);", false, "1")
	perform(t, d, "UPDATE t SET a = 3 - a;", true, "4")
	perform(t, d, "UPDATE t SET a = 5;", false, "4")
	perform(t, d, "INSERT INTO w VALUES (1, NULL), (1, NULL), (1, 1), (1, 2);", true, "4")
	perform(t, d, "INSERT INTO w VALUES (1, 2);", false, "1")
	perform(t, d, "INSERT INTO u VALUES (1, 'x'), (NULL, 'x'), (1, 'x');", true, "3")
	perform(t, d, "INSERT INTO u VALUES (3, 'x');", false, "1")
	perform(t, d, "DELETE FROM t WHERE a = 1;", false, "1")
	perform(t, d, "DELETE FROM t WHERE a = 2;", true, "1")
	perform(t, d, "UPDATE t SET a = 4 WHERE a = 1;", false, "1")
	perform(t, d, "BEGIN; DELETE FROM t; INSERT INTO t VALUES (1, 9); COMMIT;", true, "", "3", "1", "")
	perform(t, d, "BEGIN; DELETE FROM t; DELETE FROM u; ROLLBACK;", false, "", "1", "3", "")
	if contents(d, 0) != "(1, 9)" || contents(d, 1) != "(NULL, 'x')(1, 'x')(1, 'x')" || contents(d, 2) != "(1, NULL)(1, NULL)(1, 1)(1, 2)" {
		t.Error(contents(d, 0), contents(d, 1), contents(d, 2))
	}
}

func TestDatabases(t *testing.T) {
	s := build(t, tables)
	d := New(s)
	s[0].Name = "changed"
	script := parse(t, "INSERT INTO t VALUES (1, 1), (2, 2);")
	d.Transaction(script)
	script[0].Values[0][0].Value.Int = 9
	c := d.Copy()
	if !d.Equal(c) || !c.Equal(d) {
		t.Error("a copy is not equal")
	}
	perform(t, c, "INSERT INTO w VALUES (1, 1);", true, "1")
	if d.Equal(c) || c.Equal(d) || contents(d, 2) != "" {
		t.Error("a copy shares memory")
	}
	perform(t, c, "DELETE FROM w;", true, "1")
	if !d.Equal(c) {
		t.Error("equal rows")
	}
	b := d.Bag(0)
	b.Add(api.Row{value.Int(3), value.Int(3)})
	c.Bag(0).Remove(api.Row{value.Int(1), value.Int(1)})
	l, _ := d.Transaction(parse(t, "SELECT * FROM t;"))
	l[0].Rows[0][0] = value.Int(7)
	if contents(d, 0) != "(1, 1)(2, 2)" || contents(c, 0) != "(1, 1)(2, 2)" {
		t.Error("a result shares memory")
	}
	for _, table := range []int{-1, 3} {
		if d.Bag(table).Len() != 0 {
			t.Error("rows of no table")
		}
	}
	if e := New(nil); !e.Equal(e.Copy()) || e.Bag(0).Len() != 0 {
		t.Error("an empty schema")
	}
}

// randomStatement returns a statement that changes or reads few rows.
func randomStatement(r *rand.Rand) string {
	n := func(k int) string { return strconv.Itoa(r.Intn(k)) }
	where := []string{"a < 5", "a = " + n(10), "a % 2 = 0", "b < a", "b = " + n(3)}[r.Intn(5)]
	return []string{
		"INSERT INTO t VALUES (" + n(10) + ", " + n(100) + ")",
		"INSERT INTO t VALUES (" + n(10) + ", 1), (" + n(11) + ", 2)",
		"UPDATE t SET b = b + " + n(30) + " WHERE " + where,
		"UPDATE t SET a = 9 - a WHERE " + where,
		"DELETE FROM t WHERE " + where,
		"INSERT INTO u VALUES (" + n(10) + ", 'x')",
		"UPDATE u SET k = NULL, n = 'ab' WHERE k = " + n(10),
		"DELETE FROM u WHERE k = " + n(10),
		"INSERT INTO w VALUES (" + n(3) + ", " + n(3) + ")",
		"DELETE FROM w WHERE x = " + n(3),
		"SELECT k, b, n FROM t, u WHERE t.a = u.k AND t.a < " + n(10),
		"SELECT b, COUNT(*), SUM(x) FROM t JOIN w ON x < b GROUP BY b",
		"SELECT a, b FROM t WHERE " + where,
		"SAVEPOINT s", "SAVEPOINT r", "ROLLBACK TO s", "ROLLBACK TO r", "RELEASE s", "BEGIN", "COMMIT", "SELECT q FROM t",
	}[r.Intn(21)] + "; "
}

func randomTransaction(r *rand.Rand) string {
	text := "BEGIN; "
	for range r.Intn(8) {
		text += randomStatement(r)
	}
	return text + []string{"COMMIT;", "COMMIT;", "ROLLBACK;", "SELECT * FROM w;"}[r.Intn(4)]
}

// follow executes a transaction with layer 49 and compares its outcomes.
func follow(t *testing.T, s api.Schema, st *store.Store, l []api.Statement, got []Outcome, committed bool) {
	t.Helper()
	x := transaction.Begin(1, s, st)
	begins := l[0].Kind == api.StmtBegin
	explicit := begins && slices.Contains([]int{api.StmtCommit, api.StmtRollback}, l[len(l)-1].Kind)
	for i, o := range got {
		if i == 0 && begins || explicit && i == len(l)-1 {
			if !reflect.DeepEqual(o, Outcome{}) {
				t.Fatalf("%d: %+v", i, o)
			}
			continue
		}
		b, err := binder.Bind(s, l[i])
		if l[i].Kind >= api.StmtBegin && l[i].Kind <= api.StmtRollback {
			err = api.ErrState
		}
		var rows []api.Row
		var changes []api.Change
		if err == api.OK {
			rows, changes, err = x.Execute(b)
		}
		if o.Errno != err || o.Count != len(changes) || !slices.EqualFunc(o.Rows, rows, func(a, b api.Row) bool { return slices.Equal(a, b) }) {
			t.Fatalf("%d: %+v, but %v %d %d", i, o, rows, len(changes), err)
		}
	}
	want := x.Check() == api.OK && !(explicit && l[len(l)-1].Kind == api.StmtRollback)
	if committed != want {
		t.Fatalf("committed: %v", committed)
	}
	if want {
		x.Commit()
	} else {
		x.Rollback()
	}
}

// TestRandom compares with the layers that use plans and indexes, and checks P52.2.
func TestRandom(t *testing.T) {
	s := build(t, tables)
	r := rand.New(rand.NewSource(85))
	committed := 0
	for range 40 {
		d, st := New(s), store.New(s)
		for range 40 {
			text := randomTransaction(r)
			if r.Intn(3) == 0 {
				text = randomStatement(r) + randomStatement(r)
			}
			script := parse(t, text)
			for _, part := range session.Split(script) {
				l := script[part[0] : part[1]+1]
				before := d.Copy()
				got, ok := d.Transaction(l)
				follow(t, s, st, l, got, ok)
				if ok {
					committed++
				} else if !d.Equal(before) {
					t.Fatal("a transaction that is not committed changed something")
				}
				for i := range s {
					if !d.Bag(i).Equal(st.Bag(i)) {
						t.Fatalf("%s: other rows in table %d", text, i)
					}
				}
				if err := constraint.All(s, st); err != api.OK {
					t.Fatal(err)
				}
			}
		}
	}
	if committed < 200 {
		t.Errorf("only %d transactions were committed", committed)
	}
}

// Returning to a savepoint has the same effect as leaving out the statements in between.
func TestLeavingOut(t *testing.T) {
	s := build(t, tables)
	r := rand.New(rand.NewSource(86))
	d, e := New(s), New(s)
	statements := func() string {
		text := ""
		for range r.Intn(5) {
			text += randomStatement(r)
		}
		return text
	}
	cases := 0
	for range 300 {
		first, between, last := statements(), statements(), statements()
		_, a := d.Transaction(parse(t, "BEGIN; "+first+"SAVEPOINT q; "+between+"ROLLBACK TO q; RELEASE q; "+last+"COMMIT;"))
		copied := e.Copy()
		_, b := e.Transaction(parse(t, "BEGIN; "+first+last+"COMMIT;"))
		if moves(between) {
			// The statements in between moved a savepoint of the first ones.
			d, e = copied, copied.Copy()
			continue
		}
		if a != b || !d.Equal(e) {
			t.Fatalf("%s / %s / %s", first, between, last)
		}
		cases++
	}
	if cases < 50 || d.Equal(New(s)) {
		t.Errorf("%d cases", cases)
	}
}

// moves reports whether statements concern savepoints.
func moves(text string) bool {
	return slices.ContainsFunc([]string{"SAVEPOINT", "ROLLBACK", "RELEASE"}, func(w string) bool { return strings.Contains(text, w) })
}

// The combinations of rows can be left early.
func TestCombinations(t *testing.T) {
	s := build(t, tables)
	d := New(s)
	perform(t, d, "INSERT INTO t VALUES (1, 1), (2, 2), (3, 3);", true, "3")
	b, _ := binder.Bind(s, parse(t, "SELECT * FROM t AS x, t AS y WHERE x.a <> y.a;")[0])
	var got []api.Row
	for r := range d.combinations(b) {
		got = append(got, r)
		if len(got) == 3 {
			break
		}
	}
	if text(Outcome{Rows: got}) != "(1, 1, 2, 2) (1, 1, 3, 3) (2, 2, 1, 1) " {
		t.Error(got)
	}
}
