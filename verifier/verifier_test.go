package verifier

import (
	"slices"
	"strings"
	"testing"

	"disjoint/api"
	"disjoint/binder"
	"disjoint/history"
	"disjoint/parser"
	"disjoint/schema"
	"disjoint/value"
)

const tables = `
CREATE TABLE t (a INTEGER(0, 9), b INTEGER(0, 99), UNIQUE (a), CHECK (a <> 7 OR b > 50));
CREATE TABLE u (k INTEGER(0, 9), n TEXT(4), FOREIGN KEY (k) REFERENCES t (a));
CREATE TABLE w (x INTEGER(0, 9));`

func build(t *testing.T) api.Schema {
	t.Helper()
	l, offset, e := parser.Script(tables)
	if e != api.OK {
		t.Fatalf("%d at %d", e, offset)
	}
	s, _, e := schema.Build(l)
	if e != api.OK {
		t.Fatal(e)
	}
	s, e = binder.Schema(s)
	if e != api.OK {
		t.Fatal(e)
	}
	return s
}

func parse(t *testing.T, texts ...string) [][]api.Statement {
	t.Helper()
	var scripts [][]api.Statement
	for _, text := range texts {
		if text != "" && !strings.HasSuffix(text, "; ") {
			text += ";"
		}
		l, offset, e := parser.Script(text)
		if e != api.OK {
			t.Fatalf("%q: %d at %d", text, e, offset)
		}
		scripts = append(scripts, l)
	}
	return scripts
}

// events returns the history whose text has the given lines, which are separated by semicolons.
func events(t *testing.T, text string) []api.Event {
	t.Helper()
	lines := strings.ReplaceAll(text, "; ", "\n")
	if lines != "" {
		lines += "\n"
	}
	l, line, e := history.Parse(lines)
	if e != api.OK {
		t.Fatalf("%q: line %d", text, line)
	}
	return l
}

func texts(l []Violation) string {
	var words []string
	for _, v := range l {
		words = append(words, Format(v))
	}
	return strings.Join(words, ", ")
}

// check compares the violations, and how the functions divide them.
func check(t *testing.T, s api.Schema, scripts [][]api.Statement, l []api.Event, want string) {
	t.Helper()
	got := Check(s, scripts, l)
	if texts(got) != want {
		text, _ := history.Format(l)
		t.Errorf("%q instead of %q for %s", texts(got), want, text)
	}
	part := func(kinds ...int) []Violation {
		return slices.DeleteFunc(slices.Clone(got), func(v Violation) bool { return !slices.Contains(kinds, v.Kind) })
	}
	if !slices.Equal(Order(scripts, l), part(Malformed, LostCommit)) || !slices.Equal(Serial(s, scripts, l), part(NotSerial)) || !slices.Equal(Waits(s, scripts, l), part(Unjustified, WrongVictim)) {
		t.Errorf("the parts of %q differ", texts(got))
	}
}

func TestFormat(t *testing.T) {
	for _, c := range []struct {
		v    Violation
		want string
	}{
		{Violation{Malformed, 0}, "malformed at 0"}, {Violation{NotSerial, 12}, "not serial at 12"}, {Violation{Unjustified, 3}, "unjustified at 3"}, {Violation{LostCommit, -4}, "lost commit at -4"}, {Violation{WrongVictim, 1<<63 - 1}, "wrong victim at 9223372036854775807"},
		{Violation{}, "unknown at 0"}, {Violation{6, 1}, "unknown at 1"}, {Violation{-1, -1 << 63}, "unknown at -9223372036854775808"},
	} {
		if got := Format(c.v); got != c.want {
			t.Errorf("%v: %q", c.v, got)
		}
	}
}

func TestExample(t *testing.T) {
	s := build(t)
	scripts := parse(t, "BEGIN; UPDATE t SET b = 0 WHERE a = 1; COMMIT", "SELECT * FROM t WHERE a < 3")
	start := "begin 0 1 0; count 0 1 1 0; begin 1 2 0; wait 1 2 0; for 1 0 "
	check(t, s, scripts, events(t, start+"(1, 5)"), "")
	check(t, s, scripts, events(t, start+"(2, 5)"), "unjustified at 3")
}

// oneEach has a transaction of each kind.
var oneEach = []string{
	"INSERT INTO w VALUES (1); BEGIN; SAVEPOINT p; SELECT * FROM w; COMMIT; BEGIN; DELETE FROM w; ROLLBACK",
	"BEGIN; UPDATE w SET x = 2; RELEASE q; COMMIT",
	"COMMIT; BEGIN",
}

func TestOrder(t *testing.T) {
	s := build(t)
	scripts := parse(t, oneEach...)
	first := "begin 0 1 0; count 0 1 0 1; commit 0 1 0"
	second := first + "; begin 0 9 1; done 0 9 2; rows 0 9 3; row (1); commit 0 9 4"
	for _, c := range []struct{ text, want string }{
		{"", ""},
		{first, ""},
		{second, ""},
		{second + "; begin 0 17 5; count 0 17 6 1; rollback 0 17 7", ""},
		{"begin 2 3 0; error 2 3 0 13; commit 2 3 0; begin 2 11 1; commit 2 11 1", ""},
		{"begin 1 2 0; count 1 2 1 0; error 1 2 2 4; commit 1 2 3", ""},
		{"checkpoint; crash; recover; checkpoint", ""},
		// What has ended does not go on.
		{second + "; begin 0 17 5; count 0 17 6 1; rollback 0 17 7; begin 0 25 7; begin 0 17 5", "malformed at 10, malformed at 11"},
		// Other sessions, transactions and positions.
		{"begin 3 4 0; begin 0 2 0; begin 0 9 1; begin 0 1 1; begin 1 1 0; begin 7 8 0", "malformed at 0, malformed at 1, malformed at 2, malformed at 3, malformed at 4, malformed at 5"},
		// Before the beginning, and twice.
		{"count 0 1 0 1; begin 0 1 0; begin 0 1 0; commit 0 1 0; count 0 1 0 1; count 0 1 0 1; error 0 1 0 4; commit 0 1 0", "malformed at 0, malformed at 2, malformed at 3, malformed at 5, malformed at 6"},
		{"grant 0 1 0; rollback 0 1 0; abort 0 1 0 14; abort 0 1 0 11; wait 0 1 0; for 2 2 (1); rows 0 1 0; done 0 1 0", "malformed at 0, malformed at 1, malformed at 2, malformed at 3, malformed at 4, malformed at 5, malformed at 6"},
		// Outcomes of other statements.
		{"begin 0 1 0; rows 0 1 0; done 0 1 0; commit 0 1 0; error 0 1 0 4", "malformed at 1, malformed at 2, malformed at 3"},
		{first + "; begin 0 9 1; rows 0 9 2; count 0 9 2 1; done 0 9 1; done 0 9 2; done 0 9 3; count 0 9 3 1; rollback 0 9 3; commit 0 9 3; rows 0 9 3; row (1); error 0 9 4 13; done 0 9 4; rollback 0 9 4; abort 0 9 4 14; abort 0 9 4 13", "malformed at 4, malformed at 5, malformed at 6, malformed at 8, malformed at 9, malformed at 10, malformed at 11, malformed at 13, malformed at 14, malformed at 15, malformed at 16, malformed at 17"},
		{second + "; begin 0 17 5; error 0 17 6 4; error 0 17 7 4; commit 0 17 7; abort 0 17 7 11; wait 0 17 7; for 2 2 (1); rollback 0 17 7", "malformed at 9, malformed at 10, malformed at 11, malformed at 12"},
		// Only statements that read or write wait, once, and what is granted does not wait.
		{first + "; begin 0 9 1; wait 0 9 2; for 2 2 (1); grant 0 9 2", "malformed at 4, malformed at 5"},
		{"begin 2 3 0; wait 2 3 0; for 1 0 (1); error 2 3 0 13", "malformed at 1"},
		// A restarted transaction begins again; others do not.
		{"begin 1 2 0; count 1 2 1 0; abort 1 2 2 14; error 1 2 2 4; abort 1 2 3 14; abort 1 2 3 13; abort 1 2 3 16; begin 1 2 0", "malformed at 2, malformed at 4, malformed at 5, malformed at 7"},
		{"begin 0 1 0; count 0 1 0 1; abort 0 1 0 11; begin 0 9 1", ""},
		{"begin 0 1 0; count 0 1 0 1; abort 0 1 0 12; begin 0 9 1", ""},
		{"begin 0 1 0; count 0 1 0 1; abort 0 1 0 16; begin 0 9 1", ""},
		{"begin 0 1 0; count 0 1 0 1; abort 0 1 0 10; begin 0 9 1", "malformed at 2, malformed at 3"},
		// Crashes and recoveries alternate, and nothing happens in between.
		{"recover; begin 0 1 0; crash; crash; checkpoint; begin 0 1 0; count 0 1 0 1; begin 1 2 0; recover; recover; count 0 1 0 1; begin 0 1 0", "malformed at 0, malformed at 3, malformed at 4, malformed at 5, malformed at 6, malformed at 7, malformed at 9, malformed at 10"},
	} {
		check(t, s, scripts, events(t, c.text), c.want)
	}
}

func TestWaiting(t *testing.T) {
	s := build(t)
	scripts := parse(t, "BEGIN; DELETE FROM w; SELECT * FROM w; COMMIT", "BEGIN; DELETE FROM w; COMMIT")
	start := "begin 0 1 0; count 0 1 1 0; begin 1 2 0; wait 1 2 1; for 1 2 (3)"
	for _, c := range []struct{ text, want string }{
		{"", ""},
		{"; grant 1 2 1; count 1 2 1 0", ""},
		{"; count 1 2 1 0; error 1 2 1 4; wait 1 2 1; for 1 2 (3)", "malformed at 4, malformed at 5, malformed at 6"},
		{"; grant 1 2 1; wait 1 2 1; for 1 2 (3); grant 1 2 1; abort 1 2 1 14; count 1 2 1 0; wait 1 2 2; for 1 2 (4); commit 1 2 2; grant 1 2 2; commit 1 2 2", "malformed at 5, malformed at 6, malformed at 7, unjustified at 9, malformed at 10"},
		// A step ends the grant, and so does a new beginning.
		{"; grant 1 2 1; count 1 2 1 0; grant 1 2 2; commit 1 2 2; begin 1 2 0", "malformed at 6, malformed at 8"},
		{"; abort 1 2 1 14; count 1 2 1 0; grant 1 2 1; begin 1 2 0; wait 1 2 1; for 1 2 (3)", "wrong victim at 4, malformed at 5, malformed at 6"},
		{"; grant 1 2 1; crash; recover; grant 1 2 1; begin 1 2 0; wait 1 2 1; for 1 2 (3); crash; recover; begin 1 2 0; wait 1 2 1; for 1 2 (3); abort 1 2 1 11; abort 1 2 1 12; abort 1 2 1 16", "malformed at 7, unjustified at 9, unjustified at 13, malformed at 14, malformed at 15, malformed at 16"},
		// The granted session of a transaction that was rolled back in doubt does not keep its grant.
		{"; grant 1 2 1; count 1 2 1 0; commit 1 2 2; wait 0 1 2; for 2 2 (1); rows 0 1 2; grant 0 1 2; rows 0 1 2; commit 0 1 3", "unjustified at 7, malformed at 8"},
	} {
		check(t, s, scripts, events(t, start+c.text), c.want)
	}
}

// Events whose fields do not belong to their kind cannot occur.
func TestShapes(t *testing.T) {
	s := build(t)
	scripts := parse(t, "BEGIN; SELECT * FROM w; COMMIT")
	reason := []api.Wait{{Txn: 2, Row: api.Row{value.Int(1)}}}
	rows := []api.Row{{value.Int(1)}}
	start := events(t, "begin 0 1 0")
	for _, c := range []struct {
		event api.Event
		want  string
	}{
		{api.Event{Kind: api.EvRows, Txn: 1, Statement: 1}, ""},
		{api.Event{Kind: api.EvRows, Txn: 1, Statement: 1, Rows: []api.Row{}, Waits: []api.Wait{}}, ""},
		{api.Event{Kind: api.EvError, Txn: 1, Statement: 1, Errno: -99}, ""},
		{api.Event{Kind: api.EvWait, Txn: 1, Statement: 1, Waits: reason}, "unjustified at 1"},
		{api.Event{Kind: api.EvRows, Txn: 1, Statement: 1, Waits: reason}, "malformed at 1"},
		{api.Event{Kind: api.EvRows, Txn: 1, Statement: 1, Count: 1}, "malformed at 1"},
		{api.Event{Kind: api.EvRows, Txn: 1, Statement: 1, Errno: 1}, "malformed at 1"},
		{api.Event{Kind: api.EvError, Txn: 1, Statement: 1}, "malformed at 1"},
		{api.Event{Kind: api.EvError, Txn: 1, Statement: 1, Errno: 4, Rows: rows}, "malformed at 1"},
		{api.Event{Kind: api.EvError, Txn: 1, Statement: 1, Errno: 4, Count: -1}, "malformed at 1"},
		{api.Event{Kind: api.EvWait, Txn: 1, Statement: 1}, "malformed at 1"},
		{api.Event{Kind: api.EvWait, Txn: 1, Statement: 1, Waits: []api.Wait{}}, "malformed at 1"},
		{api.Event{Kind: api.EvWait, Txn: 1, Statement: 1, Waits: reason, Errno: 14}, "malformed at 1"},
		{api.Event{Kind: api.EvCheckpoint}, ""},
		{api.Event{Kind: api.EvCheckpoint, Txn: 1}, "malformed at 1"},
		{api.Event{Kind: api.EvCheckpoint, Statement: 1}, "malformed at 1"},
		{api.Event{Kind: api.EvCrash, Session: 1}, "malformed at 1"},
		{api.Event{Kind: api.EvCrash, Count: 1}, "malformed at 1"},
		{api.Event{Kind: api.EvCrash, Errno: 15}, "malformed at 1"},
		{api.Event{}, "malformed at 1"},
		{api.Event{Kind: 14, Txn: 1, Statement: 1}, "malformed at 1"},
		{api.Event{Kind: -1}, "malformed at 1"},
		{api.Event{Kind: api.EvRows, Session: -1, Txn: 1, Statement: 1}, "malformed at 1"},
		{api.Event{Kind: api.EvRows, Session: 1 << 62, Txn: 1, Statement: 1}, "malformed at 1"},
		{api.Event{Kind: api.EvRows, Txn: -7, Statement: 1}, "malformed at 1"},
		{api.Event{Kind: api.EvRows, Txn: 1, Statement: -1}, "malformed at 1"},
		{api.Event{Kind: api.EvCommit, Txn: -1 << 63}, "malformed at 1"},
		{api.Event{Kind: api.EvCommit}, "malformed at 1"},
	} {
		check(t, s, scripts, append(slices.Clone(start), c.event), c.want)
	}
	count := events(t, "begin 0 1 0; count 0 1 0 1")
	count[1].Count = -1
	check(t, s, parse(t, "DELETE FROM w"), count, "malformed at 1")
	check(t, s, nil, start, "malformed at 0")
	check(t, s, parse(t, ""), start, "malformed at 0")
	check(t, nil, parse(t, "SELECT * FROM w"), events(t, "begin 0 1 0; error 0 1 0 4; commit 0 1 0"), "")
}

func TestLostCommit(t *testing.T) {
	s := build(t)
	scripts := parse(t, oneEach...)
	first := "begin 0 1 0; count 0 1 0 1; commit 0 1 0"
	second := first + "; begin 0 9 1; done 0 9 2; rows 0 9 3; row (1); commit 0 9 4"
	for _, c := range []struct{ text, want string }{
		{first + "; commit 0 1 0", "lost commit at 3"},
		// The transaction alone determines the session of a lost commit.
		{first + "; commit 5 1 77", "lost commit at 3"},
		{first + "; commit 0 9 4; commit 0 2 0; commit 1 2 0; commit 0 3 0", "malformed at 3, malformed at 4, malformed at 5, malformed at 6"},
		{second + "; commit 0 1 0; commit 0 9 4; commit 0 17 7", "lost commit at 7, lost commit at 8, malformed at 9"},
		// A commit that could not occur is not an earlier one.
		{"commit 0 1 0; commit 0 1 0; " + first + "; rollback 0 1 0", "malformed at 0, malformed at 1, malformed at 5"},
		{"begin 0 1 0; count 0 1 0 1; abort 0 1 0 11; commit 0 1 0", "malformed at 3"},
		{first + "; crash; commit 0 1 0; recover; commit 0 1 0", "lost commit at 4, lost commit at 6"},
	} {
		check(t, s, scripts, events(t, c.text), c.want)
	}
	l := append(events(t, first), api.Event{Kind: api.EvCommit, Txn: 1, Count: 5}, api.Event{Kind: api.EvCommit, Txn: 0}, api.Event{Kind: api.EvCommit, Txn: -7})
	check(t, s, scripts, l, "lost commit at 3, malformed at 4, malformed at 5")
}

// A commit that a crash interrupted can follow the recovery.
func TestDoubt(t *testing.T) {
	s := build(t)
	scripts := parse(t, "INSERT INTO w VALUES (1); SELECT * FROM w", "BEGIN; INSERT INTO w VALUES (2); INSERT INTO w VALUES (3); COMMIT", "BEGIN; SELECT * FROM w; ROLLBACK")
	one := "begin 0 1 0; count 0 1 0 1; "
	two := "begin 1 2 0; count 1 2 1 1; count 1 2 2 1; "
	for _, c := range []struct{ text, want string }{
		{one + "crash; recover; commit 0 1 0; begin 0 9 1; rows 0 9 1; row (1); commit 0 9 1", ""},
		{two + "crash; recover; commit 1 2 3; begin 0 1 0", ""},
		{two + "crash; recover; begin 1 2 0; count 1 2 1 1", ""},
		// Only directly behind the recovery.
		{two + "crash; commit 1 2 3; recover; checkpoint; commit 1 2 3", "malformed at 4, malformed at 7"},
		{two + "crash; recover; commit 1 2 2; commit 1 2 0; grant 1 2 3; commit 1 2 3; commit 1 2 3", "malformed at 5, malformed at 6, malformed at 7, lost commit at 9"},
		{two + one + "crash; recover; commit 0 1 0; commit 1 2 3", "malformed at 8"},
		{two + one + "crash; recover; commit 1 2 3; commit 0 1 0", "malformed at 8"},
		// Only of the last crash.
		{two + "crash; recover; crash; recover; commit 1 2 3", "malformed at 7"},
		{two + "crash; crash; recover; recover; commit 1 2 3", "malformed at 4, malformed at 6"},
		// Only for a session that was at a commit, and did not wait.
		{"begin 1 2 0; count 1 2 1 1; crash; recover; commit 1 2 2; commit 1 2 3", "malformed at 4, malformed at 5"},
		{"crash; recover; commit 0 1 0", "malformed at 2"},
		{"begin 2 3 0; rows 2 3 1; crash; recover; commit 2 3 2", "malformed at 4"},
		{one + two + "wait 1 2 3; for 1 2 (2); crash; recover; commit 1 2 3", "unjustified at 5, malformed at 8"},
		// The outcomes are those of the interrupted attempt.
		{"begin 0 1 0; count 0 1 0 2; crash; recover; commit 0 1 0", "not serial at 1"},
		{one + "crash; recover; begin 0 1 0; commit 0 1 0; count 0 1 0 1; commit 0 1 0", "malformed at 5"},
	} {
		check(t, s, scripts, events(t, c.text), c.want)
	}
	l := events(t, one+"crash; recover; commit 0 1 0")
	l[4].Count = 1
	check(t, s, scripts, l, "malformed at 4")
}

func TestSerial(t *testing.T) {
	s := build(t)
	scripts := parse(t,
		"INSERT INTO t VALUES (1, 10), (2, 20); BEGIN; SELECT a FROM t; UPDATE t SET b = b + 1; SAVEPOINT p; ROLLBACK TO q; SELECT z FROM t; BEGIN; COMMIT",
		"BEGIN; INSERT INTO t VALUES (1, 11); COMMIT; INSERT INTO u VALUES (1, 'x')",
		"BEGIN; INSERT INTO u VALUES (5, 'x')",
	)
	first := "begin 0 1 0; count 0 1 0 2; commit 0 1 0; "
	second := "begin 0 9 1; rows 0 9 2; row (1); row (2); count 0 9 3 2; done 0 9 4; error 0 9 5 4; error 0 9 6 4; error 0 9 7 13; commit 0 9 8; "
	insert := "begin 1 2 0; count 1 2 1 1; commit 1 2 2; "
	for _, c := range []struct{ text, want string }{
		{first + second, ""},
		{first + strings.Replace(second, "row (2)", "row (3)", 1), "not serial at 4"},
		{first + strings.Replace(second, "row (1); row (2)", "row (2); row (1)", 1), "not serial at 4"},
		{first + strings.Replace(second, "row (1); ", "", 1), "not serial at 4"},
		{first + strings.Replace(second, "row (2)", "row (2, 2)", 1), "not serial at 4"},
		{first + strings.Replace(second, "count 0 9 3 2", "count 0 9 3 1", 1), "not serial at 5"},
		{first + strings.Replace(second, "count 0 9 3 2", "error 0 9 3 9", 1), "not serial at 5"},
		{first + strings.Replace(second, "done 0 9 4", "error 0 9 4 4", 1), "not serial at 6"},
		{first + strings.Replace(second, "error 0 9 5 4", "done 0 9 5", 1), "not serial at 7"},
		{first + strings.Replace(second, "error 0 9 5 4", "error 0 9 5 5", 1), "not serial at 7"},
		{first + strings.Replace(second, "error 0 9 6 4", "rows 0 9 6", 1), "not serial at 8"},
		{first + strings.Replace(second, "error 0 9 7 13", "error 0 9 7 4", 1), "not serial at 9"},
		// The first one of a transaction is reported, and one for each transaction.
		{strings.Replace(first, "2", "3", 1) + strings.Replace(strings.Replace(second, "row (2)", "row (3)", 1), "done 0 9 4", "error 0 9 4 4", 1), "not serial at 1, not serial at 4"},
		// The order of the commits counts, not that of the beginnings.
		{"begin 1 2 0; count 1 2 1 1; " + first + "commit 1 2 2", "not serial at 5"},
		{insert + first, "not serial at 5"},
		{insert + "begin 1 10 3; count 1 10 3 1; commit 1 10 3", ""},
		{"begin 1 2 0; count 1 2 1 1; abort 1 2 2 11; begin 1 10 3; count 1 10 3 1; commit 1 10 3", "not serial at 5"},
		// A transaction that is not committed has no effect on the others.
		{first + "begin 1 2 0; count 1 2 1 1; commit 1 2 2; " + second, "not serial at 5"},
		{"begin 2 3 0; count 2 3 1 1; commit 2 3 1", "not serial at 2"},
		// Without a commit nothing is compared.
		{"begin 0 1 0; count 0 1 0 5", ""},
		{"begin 0 1 0; count 0 1 0 5; crash; recover; " + first + second, ""},
		{"begin 1 2 0; count 1 2 1 5; abort 1 2 2 12; begin 1 10 3; count 1 10 3 7; abort 1 10 3 12", ""},
		// An earlier attempt does not count.
		{"begin 0 1 0; count 0 1 0 5; crash; recover; begin 0 1 0; count 0 1 0 2; commit 0 1 0", ""},
	} {
		check(t, s, scripts, events(t, strings.TrimSuffix(c.text, "; ")), c.want)
	}
}

// Violations of earlier events that are found at later commits are sorted.
func TestSorted(t *testing.T) {
	s := build(t)
	scripts := parse(t, "SELECT * FROM w", "SELECT * FROM w")
	check(t, s, scripts, events(t, "begin 0 1 0; rows 0 1 0; row (1); begin 1 2 0; rows 1 2 0; row (2); grant 1 2 0; commit 1 2 0; commit 0 1 0"), "not serial at 1, not serial at 3, malformed at 4")
}

func TestReasons(t *testing.T) {
	s := build(t)
	scripts := parse(t,
		"BEGIN; DELETE FROM t WHERE a = 1; SELECT * FROM w WHERE x > 5; SELECT b FROM z; SAVEPOINT p; UPDATE t SET a = 3 WHERE a = 2; COMMIT",
		"SELECT * FROM t WHERE b < 50",
		"UPDATE w SET x = 7 WHERE x = 2",
		"BEGIN; SELECT * FROM w WHERE x = 2; SELECT * FROM w; ROLLBACK",
	)
	start := "begin 0 1 0; count 0 1 1 0; rows 0 1 2; "
	for _, c := range []struct{ text, want string }{
		// Executed statements, and the next one, if it is an access.
		{start + "begin 1 2 0; wait 1 2 0; for 1 0 (1, 5)", ""},
		{start + "begin 1 2 0; wait 1 2 0; for 1 0 (2, 5)", "unjustified at 4"},
		{start + "begin 1 2 0; wait 1 2 0; for 1 0 (1, 50)", "unjustified at 4"},
		{start + "error 0 1 3 4; done 0 1 4; begin 1 2 0; wait 1 2 0; for 1 0 (2, 5)", ""},
		{start + "error 0 1 3 4; done 0 1 4; begin 1 2 0; wait 1 2 0; for 1 0 (3, 5)", ""},
		{start + "error 0 1 3 4; done 0 1 4; begin 1 2 0; wait 1 2 0; for 1 0 (4, 5)", "unjustified at 6"},
		// All reasons count.
		{start + "begin 1 2 0; wait 1 2 0; for 1 0 (1, 5); for 1 0 (1, 6)", ""},
		{start + "begin 1 2 0; wait 1 2 0; for 1 0 (1, 5); for 1 0 (1, 60)", "unjustified at 4"},
		// Rows of other tables, and rows that are not possible.
		{start + "begin 1 2 0; wait 1 2 0; for 1 1 (1, 5)", "unjustified at 4"},
		{start + "begin 1 2 0; wait 1 2 0; for 1 0 (1)", "unjustified at 4"},
		{start + "begin 1 2 0; wait 1 2 0; for 1 0 (1, 5, 5)", "unjustified at 4"},
		{start + "begin 1 2 0; wait 1 2 0; for 1 0 (1, 'x')", "unjustified at 4"},
		{start + "begin 1 2 0; wait 1 2 0; for 1 7 (1, 5)", "unjustified at 4"},
		// The request writes and the other one reads, and both read.
		{start + "begin 2 3 0; wait 2 3 0; for 1 2 (7)", ""},
		{start + "begin 2 3 0; wait 2 3 0; for 1 2 (2)", "unjustified at 4"},
		{start + "begin 3 4 0; wait 3 4 1; for 1 2 (7)", "unjustified at 4"},
		// A transaction that has not begun, another one, and the own one.
		{start + "begin 1 2 0; wait 1 2 0; for 3 2 (7)", "unjustified at 4"},
		{start + "begin 1 2 0; wait 1 2 0; for 9 0 (1, 5)", "unjustified at 4"},
		{start + "begin 1 2 0; wait 1 2 0; for 2 0 (1, 5)", "unjustified at 4"},
		{start + "begin 1 2 0; wait 1 2 0; for 8 0 (1, 5)", "unjustified at 4"},
		{start + "begin 1 2 0; begin 2 3 0; wait 2 3 0; for 4 2 (2)", "unjustified at 5"},
		{start + "begin 1 2 0; wait 1 2 0; for 9223372036854775807 0 (1, 5)", "unjustified at 4"},
		{"begin 2 3 0; wait 2 3 0; for 3 2 (2)", "unjustified at 1"},
		{start + "crash; recover; begin 1 2 0; wait 1 2 0; for 1 0 (1, 5)", "unjustified at 6"},
		// The next statement of a transaction at a rollback has no accesses; its executed ones do.
		{"begin 3 4 0; rows 3 4 1; rows 3 4 2; begin 2 3 0; wait 2 3 0; for 4 2 (7)", ""},
		{"begin 3 4 0; rows 3 4 1; begin 2 3 0; wait 2 3 0; for 4 2 (7)", ""},
		{"begin 3 4 0; begin 2 3 0; wait 2 3 0; for 4 2 (7)", "unjustified at 2"},
		{"begin 3 4 0; begin 2 3 0; wait 2 3 0; for 4 2 (2)", ""},
		// A wait that cannot occur is not examined.
		{start + "wait 1 2 0; for 1 0 (9, 9)", "malformed at 3"},
	} {
		check(t, s, scripts, events(t, c.text), c.want)
	}
	l := events(t, start+"begin 1 2 0; wait 1 2 0; for 1 0 (1, 5)")
	l[4].Waits[0].Table, l[4].Waits[0].Txn = -1, -1
	check(t, s, scripts, l, "unjustified at 4")
	l[4].Waits[0].Txn = 1
	check(t, s, scripts, l, "unjustified at 4")
	l[4].Waits[0].Table, l[4].Waits[0].Row[0] = 0, api.Value{Kind: 9}
	check(t, s, scripts, l, "unjustified at 4")
}

// At a commit the constraints of the net changes are needed.
func TestCommitReasons(t *testing.T) {
	s := build(t)
	scripts := parse(t,
		"INSERT INTO t VALUES (4, 1), (5, 1)",
		"BEGIN; INSERT INTO t VALUES (1, 1); SAVEPOINT p; INSERT INTO t VALUES (2, 1), (3, 1), (3, 2); ROLLBACK TO p; DELETE FROM t WHERE a = 4; COMMIT",
		"INSERT INTO t VALUES (1, 2)",
		"INSERT INTO u VALUES (4, 'x')",
		"BEGIN; INSERT INTO u VALUES (1, 'y'); SELECT * FROM w; COMMIT",
	)
	start := "begin 0 1 0; count 0 1 0 2; commit 0 1 0; begin 1 2 0; count 1 2 1 1; done 1 2 2; count 1 2 3 3; done 1 2 4; count 1 2 5 1; "
	for _, c := range []struct{ text, want string }{
		{"begin 2 3 0; count 2 3 0 1; wait 2 3 0; for 2 0 (1, 1)", ""},
		{"begin 2 3 0; count 2 3 0 1; wait 2 3 0; for 2 0 (2, 1)", "unjustified at 11"},
		// It reads all rows with the key, whether or not they have been inserted.
		{"begin 2 3 0; count 2 3 0 1; wait 2 3 0; for 2 0 (1, 90)", "unjustified at 11"},
		{"begin 2 3 0; count 2 3 0 1; wait 1 2 6; for 3 0 (1, 2)", ""},
		{"begin 2 3 0; count 2 3 0 1; wait 1 2 6; for 3 0 (1, 3)", "unjustified at 11"},
		// The rows of u that refer to the deleted row; not those that refer to a row whose insertion was undone.
		{"begin 3 4 0; count 3 4 0 1; wait 1 2 6; for 4 1 (4, 'x')", ""},
		{"begin 3 4 0; count 3 4 0 1; wait 1 2 6; for 4 1 (3, 'x')", "unjustified at 11"},
		{"begin 4 5 0; count 4 5 1 1; wait 1 2 6; for 5 1 (1, 'y')", "unjustified at 11"},
		// The request of the other one, which is at its commit.
		{"begin 3 4 0; wait 3 4 0; for 2 1 (4, 'x')", ""},
		{"begin 3 4 0; wait 3 4 0; for 2 1 (4, 'y')", "unjustified at 10"},
		{"begin 4 5 0; count 4 5 1 1; rows 4 5 2; wait 4 5 3; for 2 0 (1, 1)", ""},
		{"begin 4 5 0; count 4 5 1 1; wait 4 5 2; for 2 0 (1, 1)", "unjustified at 11"},
	} {
		check(t, s, scripts, events(t, start+c.text), c.want)
	}
	// Without the first commit there is no row to delete, so that u does not matter.
	without := strings.Replace(strings.Replace(start, "commit 0 1 0; ", "", 1), "count 1 2 5 1", "count 1 2 5 0", 1)
	check(t, s, scripts, events(t, without+"begin 3 4 0; count 3 4 0 1; wait 1 2 6; for 4 1 (4, 'x')"), "unjustified at 10")
}

func TestVictims(t *testing.T) {
	s := build(t)
	script := "BEGIN; SELECT * FROM w; DELETE FROM w; COMMIT"
	scripts := parse(t, script, script, script, script)
	start := "begin 0 1 0; rows 0 1 1; begin 1 2 0; rows 1 2 1; begin 2 3 0; rows 2 3 1; begin 3 4 0; rows 3 4 1; "
	for _, c := range []struct{ text, want string }{
		{"wait 0 1 2; for 2 2 (1); wait 1 2 2; for 1 2 (1); abort 1 2 2 14", ""},
		{"wait 0 1 2; for 2 2 (1); wait 1 2 2; for 1 2 (1); abort 0 1 2 14", "wrong victim at 10"},
		{"wait 0 1 2; for 2 2 (1); abort 0 1 2 14", "wrong victim at 9"},
		{"wait 1 2 2; for 1 2 (1); abort 1 2 2 14", "wrong victim at 9"},
		// The greatest one of some cycle, though it is on a longer one.
		{"wait 0 1 2; for 2 2 (1); for 3 2 (1); wait 1 2 2; for 1 2 (1); wait 2 3 2; for 1 2 (2); abort 1 2 2 14", ""},
		{"wait 0 1 2; for 2 2 (1); for 3 2 (1); wait 1 2 2; for 1 2 (1); wait 2 3 2; for 1 2 (2); abort 2 3 2 14", ""},
		{"wait 0 1 2; for 2 2 (1); wait 1 2 2; for 3 2 (1); wait 2 3 2; for 1 2 (2); abort 1 2 2 14", "wrong victim at 11"},
		{"wait 0 1 2; for 2 2 (1); wait 1 2 2; for 3 2 (1); wait 2 3 2; for 1 2 (2); abort 2 3 2 14", ""},
		// It waits for a cycle, but is not on it.
		{"wait 0 1 2; for 2 2 (1); wait 1 2 2; for 1 2 (1); wait 2 3 2; for 1 2 (2); abort 2 3 2 14; abort 1 2 2 14", "wrong victim at 11"},
		// After a grant or an abort there is no edge.
		{"wait 0 1 2; for 2 2 (1); grant 0 1 2; wait 1 2 2; for 1 2 (1); abort 1 2 2 14", "wrong victim at 11"},
		{"wait 0 1 2; for 2 2 (1); wait 1 2 2; for 1 2 (1); abort 1 2 2 14; abort 0 1 2 14", "wrong victim at 11"},
		// Reasons that are not justified are edges, too.
		{"wait 1 2 2; for 2 2 (1); abort 1 2 2 14", "unjustified at 8"},
		{"wait 1 2 2; for 99 2 (1); abort 1 2 2 14", "unjustified at 8, wrong victim at 9"},
		{"wait 0 1 2; for 2 0 (1, 1); wait 1 2 2; for 1 2 (1); abort 1 2 2 14", "unjustified at 8"},
		// Those of an earlier wait are not.
		{"wait 0 1 2; for 2 2 (1); grant 0 1 2; count 0 1 2 0; wait 0 1 3; for 3 2 (1); wait 1 2 2; for 1 2 (1); abort 1 2 2 14", "unjustified at 11, wrong victim at 13"},
		// An abort for another reason is none of a deadlock.
		{"count 1 2 2 0; abort 1 2 3 11", ""},
	} {
		check(t, s, scripts, events(t, start+c.text), c.want)
	}
}
