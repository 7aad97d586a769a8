package console

import (
	"strconv"
	"strings"
	"testing"

	"disjoint/api"
	"disjoint/verifier"
)

const tables = "schema CREATE TABLE t (a INTEGER(0, 9), b INTEGER(0, 99), UNIQUE (a)); CREATE TABLE u (k INTEGER(0, 9), n TEXT(4), FOREIGN KEY (k) REFERENCES t (a));"

// expect executes commands, each of which is followed by its output, in which "|" stands for the line feeds.
func expect(t *testing.T, c *Console, l ...[2]string) {
	t.Helper()
	for _, x := range l {
		if got := strings.ReplaceAll(c.Execute(x[0]), "\n", "|"); got != x[1] {
			t.Errorf("%q: %q instead of %q", x[0], got, x[1])
		}
	}
}

// ready returns a console with some sessions that is open.
func ready(t *testing.T, scripts ...string) *Console {
	t.Helper()
	c := New()
	expect(t, c, [2]string{tables, ""})
	for _, s := range scripts {
		expect(t, c, [2]string{"session " + s, ""})
	}
	expect(t, c, [2]string{"open 100", ""})
	return c
}

func failed(err api.Errno) string { return "error " + strconv.Itoa(int(err)) + "|" }

func TestExample(t *testing.T) {
	expect(t, New(), [][2]string{
		{"schema CREATE TABLE t (a INTEGER(0, 9));", ""},
		{"conflict SELECT * FROM t WHERE a < 3; DELETE FROM t WHERE a > 5;", "no conflict|"},
		{"conflict SELECT * FROM t WHERE a < 3; DELETE FROM t WHERE a > 1;", "conflict: row (2) of t|"},
		{"step 0", "error 13|"},
	}...)
}

func TestActions(t *testing.T) {
	c := ready(t, "BEGIN; INSERT INTO t VALUES (1, 2), (3, 4); SELECT a, b FROM t; COMMIT;", "DELETE FROM t WHERE a < 3;")
	expect(t, c, [][2]string{
		{"step 0", "begin 0 1 0|"},
		{"step 0", "count 0 1 1 2|"},
		{"step 1", "begin 1 2 0|wait 1 2 0|for 1 0 (1, 2)|"},
		{"step 1", ""},
		{"checkpoint", "checkpoint|"},
		{"recover", ""},
		{"rows t", "(1, 2)|(3, 4)|"},
		{"step 0", "rows 0 1 2|row (1, 2)|row (3, 4)|"},
		{"done", "no|"},
		{"step 0", "commit 0 1 3|grant 1 2 0|"},
		{"step 1", "count 1 2 0 1|"},
		{"rows t", "(3, 4)|"},
		{"crash", "crash|"},
		{"step 1", ""},
		{"rows t", failed(api.ErrCrash)},
		{"rows u", failed(api.ErrCrash)},
		{"rows x", failed(api.ErrNotFound)},
		{"recover", "recover|"},
		{"rows t", "(1, 2)|(3, 4)|"},
		{"crash 1 30", ""},
		{"step 1", "begin 1 2 0|count 1 2 0 1|"},
		{"step 1", "crash|"},
		{"recover", "recover|"},
		{"step 1", "begin 1 2 0|count 1 2 0 1|"},
		{"step 1", "commit 1 2 0|"},
		{"done", "yes|"},
		{"verify", "ok|"},
		{"explain", "transaction 2 waits for transaction 1: row (a = 1, b = 2) of t|"},
		{"step 2", failed(api.ErrInvalid)},
		{"step 7", failed(api.ErrInvalid)},
		{"step 8", failed(api.ErrSyntax)},
		{"history", "begin 0 1 0|count 0 1 1 2|begin 1 2 0|wait 1 2 0|for 1 0 (1, 2)|checkpoint|rows 0 1 2|row (1, 2)|row (3, 4)|commit 0 1 3|grant 1 2 0|count 1 2 0 1|crash|recover|begin 1 2 0|count 1 2 0 1|crash|recover|begin 1 2 0|count 1 2 0 1|commit 1 2 0|"},
	}...)
}

// Explanations and violations are in the order of the events. The rows of a table are sorted, and repeated.
func TestReports(t *testing.T) {
	c := ready(t, "BEGIN; INSERT INTO u VALUES (NULL, 'it''s'), (NULL, 'b'), (NULL, NULL), (NULL, 'b'); SELECT COUNT(*) FROM t; ROLLBACK;", "DELETE FROM u;", "UPDATE u SET n = 'x';")
	expect(t, c, [][2]string{
		{"history", ""}, {"verify", "ok|"}, {"explain", ""}, {"rows u", ""},
		{"run 2", "begin 0 1 0|begin 1 2 0|count 1 2 0 0|begin 2 3 0|wait 2 3 0|for 2 1 (NULL, NULL)|wait 0 1 1|for 2 1 (NULL, 'it''s')|for 3 1 (NULL, 'it''s')|commit 1 2 0|grant 2 3 0|count 2 3 0 0|"},
		{"explain", "transaction 3 waits for transaction 2: row (k = NULL, n = NULL) of u|transaction 1 waits for transaction 2: row (k = NULL, n = 'it''s') of u|transaction 1 waits for transaction 3: row (k = NULL, n = 'it''s') of u|"},
	}...)
}

func TestRows(t *testing.T) {
	c := ready(t, "INSERT INTO u VALUES (NULL, 'it''s'), (NULL, 'b'), (NULL, NULL), (NULL, 'b');")
	expect(t, c, [][2]string{
		{"step 0", "begin 0 1 0|count 0 1 0 4|"},
		{"rows u", "(NULL, NULL)|(NULL, 'b')|(NULL, 'b')|(NULL, 'it''s')|"},
		{"rows t", ""},
		{"rows ", failed(api.ErrNotFound)}, {"rows U", failed(api.ErrNotFound)}, {"rows u ", failed(api.ErrNotFound)}, {"rows  u", failed(api.ErrNotFound)}, {"rows u\n", failed(api.ErrNotFound)}, {"rows", failed(api.ErrSyntax)},
	}...)
}

// closing and opening contain commands that are possible only before and only after open.
var (
	closing = []string{"schema ", "session ", "open 100", "schema CREATE", "session x", "open 0"}
	opening = []string{"step 0", "step 7", "checkpoint", "recover", "crash", "crash 1 2", "run 1", "random 1 2 3 4", "history", "verify", "explain", "rows t", "rows x", "done"}
)

func TestStates(t *testing.T) {
	for _, line := range opening {
		expect(t, New(), [2]string{line, failed(api.ErrState)})
	}
	c := ready(t, "SELECT * FROM t;")
	for range 2 {
		for _, line := range closing {
			expect(t, c, [2]string{line, failed(api.ErrState)})
		}
		expect(t, c, [2]string{"rows t", ""})
		// The state precedes other errors, but not those of the form.
		expect(t, c, [2]string{"open", failed(api.ErrSyntax)}, [2]string{"open x", failed(api.ErrSyntax)})
	}
	expect(t, c, [][2]string{{"crash", "crash|"}, {"open 100", failed(api.ErrState)}, {"verify", "ok|"}, {"history", "crash|"}, {"done", "no|"}, {"explain", ""}, {"plan SELECT * FROM t;", "SCAN t|"}, {"conflict SELECT * FROM t; SELECT * FROM t;", "no conflict|"}}...)
	// A console that could not be opened is not open.
	c = New()
	expect(t, c, [][2]string{{"open 0", failed(api.ErrInvalid)}, {"done", failed(api.ErrState)}, {"open 7", ""}, {"done", "yes|"}, {"history", ""}, {"run 5", ""}, {"random 5 0 0 1", ""}, {"step 0", failed(api.ErrInvalid)}, {"checkpoint", "checkpoint|"}}...)
}

func TestSyntax(t *testing.T) {
	lines := []string{
		" ", "x", "Schema x", "schema", "session", "schemas x", " schema x", "schema\tx", "schema\nx", "open", "open ", "open 01", "open -1", "open +1", "open 1 ", "open  1", "open 1 2", "open 1000000001", "open 99999999999999999999", "open x", "open 1\n", "open 0x1",
		"run", "run ", "run 1 2", "run 00", "run 1000000001", "random 1 2 3", "random 1 2 3 4 5", "random", "random ", "random 1 2 3 ", "random 1 2 3 04", "random 1 2  3 4", "random 1 2 3 4 ", "random a b c d", "random 1 2 3 1000000001", "random -1 0 0 0",
		"history ", "history x", "history\n", "verify ", "verify 1", "explain ", "done ", "done?", "rows", "conflict", "plan", "plan\nx", "conflicts x",
		"step", "step ", "step 8", "step 00", "step 0 ", "step 0\n", "step 0\nstep 0", "step 0\nstep 1\n", "checkpoint ", "checkpoint 1", "crash 0 0", "crash 1", "crash 1 65", "crash 1000001 1", "recover 1", "recover\n", "# ", "\n", "\n# x", " # x",
	}
	open := ready(t, "SELECT * FROM t;")
	for _, line := range lines {
		want := failed(api.ErrSyntax)
		if line == "# " {
			want = ""
		}
		expect(t, New(), [2]string{line, want})
		expect(t, open, [2]string{line, want})
	}
	for _, line := range []string{"", "#", "#x", "# step 0", "#\nstep 0", "##\xff"} {
		expect(t, New(), [2]string{line, ""})
		expect(t, open, [2]string{line, ""})
	}
	expect(t, open, [2]string{"history", ""})
}

func TestSchema(t *testing.T) {
	c := New()
	expect(t, c, [][2]string{
		{"conflict SELECT * FROM t; DELETE FROM t;", failed(api.ErrNotFound)},
		{"schema CREATE TABLE t (a INTEGER(0, 9)", failed(api.ErrSyntax)},
		{"schema CREATE TABLE t (a INTEGER(0, 9))", failed(api.ErrSyntax)},
		{"schema SELECT * FROM t;", failed(api.ErrInvalid)},
		{"schema CREATE TABLE t (a INTEGER); CREATE TABLE t (a INTEGER);", failed(api.ErrExists)},
		{"schema CREATE TABLE t (a INTEGER, CHECK (a = 'x'));", failed(api.ErrType)},
		{"schema CREATE TABLE t (a INTEGER, CHECK (b = 1));", failed(api.ErrNotFound)},
		{"schema " + strings.Repeat(" ", api.MaxSource+1), failed(api.ErrTooLarge)},
		{"plan SELECT * FROM t;", failed(api.ErrNotFound)},
		{"schema CREATE TABLE t (a INTEGER(0, 9),\nb INTEGER);\n-- a comment\n", ""},
		{"plan SELECT b FROM t;", "SCAN t|"},
		// An error has no effect.
		{"schema CREATE TABLE u (a INTEGER", failed(api.ErrSyntax)},
		{"plan SELECT b FROM t;", "SCAN t|"},
		{"schema CREATE TABLE u (a INTEGER);", ""},
		{"plan SELECT b FROM t;", failed(api.ErrNotFound)},
		{"plan SELECT a FROM u;", "SCAN u|"},
		{"schema ", ""},
		{"plan SELECT a FROM u;", failed(api.ErrNotFound)},
		{"open 100", ""},
		{"rows u", failed(api.ErrNotFound)},
	}...)
}

func TestSessions(t *testing.T) {
	c := New()
	expect(t, c, [][2]string{{"session SELECT * FROM", failed(api.ErrSyntax)}, {"session SELECT * FROM t", failed(api.ErrSyntax)}, {"session " + strings.Repeat(" ", api.MaxSource+1), failed(api.ErrTooLarge)}}...)
	for range api.MaxSessions {
		expect(t, c, [2]string{"session SELECT a\nFROM t;", ""})
	}
	expect(t, c, [][2]string{
		{"session SELECT a FROM t;", failed(api.ErrTooLarge)},
		{"session SELECT a FROM", failed(api.ErrTooLarge)},
		{"session ", failed(api.ErrTooLarge)},
		{"schema CREATE TABLE t (a INTEGER(0, 9));", ""},
		{"open 100", ""},
		{"step 7", "begin 7 8 0|rows 7 8 0|"},
		{"run 2", "begin 0 1 0|rows 0 1 0|begin 1 2 0|rows 1 2 0|begin 2 3 0|rows 2 3 0|begin 3 4 0|rows 3 4 0|begin 4 5 0|rows 4 5 0|begin 5 6 0|rows 5 6 0|begin 6 7 0|rows 6 7 0|commit 7 8 0|commit 0 1 0|commit 1 2 0|commit 2 3 0|commit 3 4 0|commit 4 5 0|commit 5 6 0|commit 6 7 0|"},
		{"done", "yes|"},
	}...)
}

func TestOpen(t *testing.T) {
	c := New()
	expect(t, c, [][2]string{
		{tables, ""}, {"session SELECT * FROM t;", ""},
		{"open 0", failed(api.ErrInvalid)}, {"open 65537", failed(api.ErrInvalid)}, {"open 1000000000", failed(api.ErrInvalid)}, {"open 6", failed(api.ErrInvalid)}, {"open 7", failed(api.ErrFull)},
		{"step 0", failed(api.ErrState)},
		{"open 100", ""},
		{"step 0", "begin 0 1 0|rows 0 1 0|"},
	}...)
}

func TestConflict(t *testing.T) {
	c := New()
	expect(t, c, [][2]string{
		{tables, ""},
		{"conflict UPDATE t SET b = 1 WHERE a % 2 = 0; SELECT * FROM t WHERE a % 2 = 1;", "no conflict|"},
		{"conflict SELECT * FROM u WHERE n LIKE 'a%'; INSERT INTO u VALUES (1, 'adam');", "conflict: row (1, 'adam') of u|"},
		{"conflict INSERT INTO u VALUES (1, 'adam'); SELECT * FROM u WHERE n LIKE 'b%'", failed(api.ErrSyntax)},
		{"conflict INSERT INTO u VALUES (1, 'adam'); SELECT * FROM u WHERE n LIKE 'b%';", "no conflict|"},
		{"conflict SELECT * FROM t, u; DELETE FROM u WHERE k = 3 AND n = 'x';", "conflict: row (3, 'x') of u|"},
		{"conflict INSERT INTO t VALUES (1, 1); INSERT INTO t VALUES (1, 1);", "conflict: row (1, 1) of t|"},
		{"conflict ", failed(api.ErrInvalid)},
		{"conflict x", failed(api.ErrSyntax)},
		{"conflict SELECT * FROM t;", failed(api.ErrInvalid)},
		{"conflict SELECT * FROM t; SELECT * FROM t; SELECT * FROM t;", failed(api.ErrInvalid)},
		{"conflict SELECT * FROM t; COMMIT;", failed(api.ErrInvalid)},
		{"conflict CREATE TABLE x (a INTEGER); SELECT * FROM t;", failed(api.ErrInvalid)},
		{"conflict SELECT * FROM x; SAVEPOINT x;", failed(api.ErrInvalid)},
		{"conflict SELECT * FROM x; SELECT 'x' FROM t WHERE a = 'x';", failed(api.ErrNotFound)},
		{"conflict SELECT * FROM t WHERE a = 'x'; SELECT * FROM x;", failed(api.ErrType)},
		{"conflict SELECT * FROM t WHERE a < -(1048576 * 1048576); SELECT * FROM x;", failed(api.ErrTooLarge)},
		{"conflict SELECT * FROM x; SELECT * FROM t WHERE a < -(1048576 * 1048576);", failed(api.ErrNotFound)},
		{"conflict SELECT * FROM t; SELECT * FROM t WHERE a < -(1048576 * 1048576);", failed(api.ErrTooLarge)},
	}...)
}

func TestPlan(t *testing.T) {
	c := New()
	same := [][2]string{
		{"plan UPDATE u SET n = 'x';", "SCAN u|"},
		{"plan ", failed(api.ErrInvalid)},
		{"plan SELECT * FROM", failed(api.ErrSyntax)},
		{"plan INSERT INTO t VALUES (1, 1);", failed(api.ErrInvalid)},
		{"plan SELECT * FROM t; SELECT * FROM t;", failed(api.ErrInvalid)},
		{"plan COMMIT;", failed(api.ErrInvalid)},
		{"plan SELECT * FROM x;", failed(api.ErrNotFound)},
		{"plan SELECT * FROM t WHERE b = 'x';", failed(api.ErrType)},
	}
	empty := [][2]string{
		{"plan SELECT * FROM t WHERE a = 3 AND b < 5;", "FILTER (SCAN t) BY a = 3 AND b < 5|"},
		{"plan DELETE FROM t WHERE a = 3 AND b < 5;", "FILTER (SCAN t) BY a = 3 AND b < 5|"},
		{"plan SELECT * FROM u, t AS x WHERE k = a;", "FILTER (JOIN (SCAN u) (SCAN x)) BY k = a|"},
	}
	full := [][2]string{
		{"plan SELECT * FROM t WHERE a = 3 AND b < 5;", "FILTER (LOOKUP t (a = 3)) BY a = 3 AND b < 5|"},
		{"plan DELETE FROM t WHERE a = 3 AND b < 5;", "FILTER (LOOKUP t (a = 3)) BY a = 3 AND b < 5|"},
		{"plan SELECT * FROM u, t AS x WHERE k = a;", "FILTER (JOIN (SCAN u) (LOOKUP x (a = k))) BY k = a|"},
	}
	script := "BEGIN; INSERT INTO t VALUES (0, 0), (1, 1), (2, 2), (3, 3), (4, 4), (5, 5), (6, 6), (7, 7), (8, 8), (9, 9); INSERT INTO u VALUES (1, 'x'), (2, 'x'), (3, 'x');"
	expect(t, c, [][2]string{{tables, ""}, {"session " + script, ""}}...)
	expect(t, c, append(same, empty...)...)
	expect(t, c, [2]string{"open 100", ""})
	expect(t, c, append(same, empty...)...)
	// The rows in the working store count, also those that are not committed.
	expect(t, c, [2]string{"run 3", "begin 0 1 0|count 0 1 1 10|count 0 1 2 3|"})
	expect(t, c, append(same, full...)...)
	expect(t, c, [2]string{"crash", "crash|"})
	expect(t, c, append(same, empty...)...)
}

func TestRun(t *testing.T) {
	text := tables + "\nsession INSERT INTO t VALUES (1, 2);\n\n# a comment\nopen 100\nrun 2\nrows t\nx\nverify\ndone"
	want := "begin 0 1 0\ncount 0 1 0 1\ncommit 0 1 0\n(1, 2)\nerror 2\nok\nyes\n"
	for _, end := range []string{"", "\n", "\n\n", "\n#"} {
		if got := Run(text + end); got != want {
			t.Errorf("%q", got)
		}
	}
	for text, want := range map[string]string{"": "", "\n": "", "x": "error 2\n", "done\r\n": "error 2\n", "history\nhistory\n": "error 13\nerror 13\n"} {
		if got := Run(text); got != want {
			t.Errorf("%q: %q", text, got)
		}
	}
}

// The engine's histories have no violations, so that they are reported directly here.
func TestReport(t *testing.T) {
	l := []verifier.Violation{{Kind: verifier.NotSerial, At: 4}, {Kind: verifier.LostCommit, At: 12}}
	if got := report(l); got != "not serial at 4\nlost commit at 12\n" || report(nil) != "ok\n" {
		t.Errorf("%q", got)
	}
}
