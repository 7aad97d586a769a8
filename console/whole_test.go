package console

import (
	"math/rand"
	"reflect"
	"strconv"
	"strings"
	"testing"

	"disjoint/api"
	"disjoint/ast"
	"disjoint/binder"
	"disjoint/engine"
	"disjoint/history"
	"disjoint/parser"
	"disjoint/rowcodec"
	"disjoint/schedule"
	"disjoint/schema"
	"disjoint/store"
	"disjoint/value"
)

const sectors = 200

func parsed(t *testing.T, text string) []api.Statement {
	t.Helper()
	l, offset, e := parser.Script(text)
	if e != api.OK {
		t.Fatalf("%q: %d at %d", text, e, offset)
	}
	return l
}

func build(t *testing.T) api.Schema {
	t.Helper()
	s, _, e := schema.Build(parsed(t, strings.TrimPrefix(tables, "schema ")))
	if e != api.OK {
		t.Fatal(e)
	}
	s, e = binder.Schema(s)
	if e != api.OK {
		t.Fatal(e)
	}
	return s
}

// randomScript returns the text of a script on the small tables.
func randomScript(r *rand.Rand) string {
	n := func(k int) string { return strconv.Itoa(r.Intn(k)) }
	text := ""
	for range 1 + r.Intn(6) {
		text += []string{
			"BEGIN; ", "COMMIT; ", "ROLLBACK; ", "SAVEPOINT s; ", "ROLLBACK TO s; ",
			"INSERT INTO t VALUES (" + n(10) + ", " + n(110) + "); ",
			"INSERT INTO u VALUES (" + n(10) + ", 'it''s'); ",
			"UPDATE t SET b = b - " + n(9) + " WHERE a % 3 = " + n(3) + "; ",
			"DELETE FROM t WHERE b BETWEEN 1 AND " + n(90) + "; ",
			"SELECT a, b + 1, n FROM t JOIN u ON a = k WHERE n LIKE '%t%' ORDER BY 1 DESC LIMIT 5; ",
			"SELECT k, COUNT(*), MIN(n) FROM u WHERE k IS NOT NULL AND NOT k IN (1, " + n(9) + ") GROUP BY k; ",
		}[r.Intn(11)]
	}
	return text
}

// TestEvents tests P56.2, and the second sentence of T10: the console shows the events of an engine that performs the same actions.
func TestEvents(t *testing.T) {
	s := build(t)
	r := rand.New(rand.NewSource(95))
	for range 60 {
		c := New()
		text := tables + "\n"
		var scripts [][]api.Statement
		for range 1 + r.Intn(4) {
			script := randomScript(r)
			scripts = append(scripts, parsed(t, script))
			text += "session " + script + "\n"
		}
		text += "open " + strconv.Itoa(sectors) + "\n"
		if got := c.runLines(text); got != "" {
			t.Fatal(got)
		}
		var all []api.Action
		shown := ""
		for range 60 {
			line, l := randomCommand(r, len(scripts))
			before := len(all)
			all = append(all, l...)
			earlier, err := engine.Run(sectors, s, scripts, all[:before])
			if err != api.OK {
				t.Fatal(err)
			}
			longer, _ := engine.Run(sectors, s, scripts, all)
			want, _ := history.Format(longer[len(earlier):])
			got := c.Execute(line)
			if got != want {
				t.Fatalf("%s: %q instead of %q", line, got, want)
			}
			shown += got
			text += line + "\n"
		}
		if got := c.Execute("history"); got != shown {
			t.Fatalf("the history %q instead of %q", got, shown)
		}
		if got := c.Execute("verify"); got != "ok\n" {
			t.Fatal(got)
		}
		// The output for a text depends on the text alone.
		if Run(text) != shown || Run(text+"history\n") != shown+shown {
			t.Fatal("another output")
		}
	}
}

// run1 executes the lines of a text.
func (c *Console) runLines(text string) string {
	var b strings.Builder
	for line := range strings.SplitSeq(text, "\n") {
		b.WriteString(c.Execute(line))
	}
	return b.String()
}

// randomCommand returns a command that performs actions, and these.
func randomCommand(r *rand.Rand, sessions int) (string, []api.Action) {
	n := strconv.Itoa
	switch r.Intn(12) {
	case 0:
		k := r.Intn(3)
		return "run " + n(k), schedule.RoundRobin(sessions, k)
	case 1:
		length, checkpoints, crashes, seed := r.Intn(9), r.Intn(200), r.Intn(200), r.Intn(1000)
		line := "random " + n(length) + " " + n(checkpoints) + " " + n(crashes) + " " + n(seed)
		return line, schedule.Random(sessions, length, schedule.Rates{Checkpoints: checkpoints, Crashes: crashes}, uint64(seed))
	}
	l := schedule.Random(sessions, 1, schedule.Rates{Checkpoints: 50, Crashes: 80}, r.Uint64())
	if r.Intn(8) == 0 {
		l = []api.Action{{Kind: api.ActRecover}}
	}
	line, _ := schedule.Format(l)
	return strings.TrimSuffix(line, "\n"), l
}

// A schedule of a command has at most 1000 rounds or actions.
func TestLengths(t *testing.T) {
	c := ready(t, "SELECT * FROM t;", "SELECT * FROM u;")
	got := c.Execute("random 1000000000 1000000000 0 0")
	if got != strings.Repeat("checkpoint\n", 1000) {
		t.Errorf("%d bytes", len(got))
	}
	if got := c.Execute("random 1000 1000 0 1000000000"); got != strings.Repeat("checkpoint\n", 1000) {
		t.Errorf("%d bytes", len(got))
	}
	// Each transaction takes two steps.
	script := strings.Repeat("BEGIN; COMMIT; ", 1050)
	for rounds, want := range map[string]int{"999": 500, "1000": 500, "1001": 500, "1000000000": 500, "0": 0, "1": 1} {
		c = ready(t, script)
		if got := strings.Count(c.Execute("run "+rounds), "begin"); got != want {
			t.Errorf("%s rounds: %d transactions instead of %d", rounds, got, want)
		}
	}
}

// TestInverses tests the first sentence of T10 on what a console handles.
func TestInverses(t *testing.T) {
	s := build(t)
	r := rand.New(rand.NewSource(96))
	for table := range s {
		st, ok := schema.Statement(s, table)
		text, e := ast.Format(st)
		if again, _, f := parser.Statement(text); !ok || e != api.OK || f != api.OK || !ast.Equal(again, st) {
			t.Fatalf("%q", text)
		}
	}
	for range 100 {
		var scripts [][]api.Statement
		for range 2 {
			script := parsed(t, randomScript(r))
			scripts = append(scripts, script)
			for _, st := range script {
				text, e := ast.Format(st)
				if again, _, f := parser.Statement(text); e != api.OK || f != api.OK || !ast.Equal(again, st) {
					t.Fatalf("%q", text)
				}
			}
		}
		actions := schedule.Random(2, 60, schedule.Rates{Checkpoints: 20, Crashes: 50}, r.Uint64())
		text, _ := schedule.Format(actions)
		if again, _, e := schedule.Parse(text); e != api.OK || !reflect.DeepEqual(again, actions) {
			t.Fatalf("%q", text)
		}
		events, _ := engine.Run(sectors, s, scripts, actions)
		text, _ = history.Format(events)
		if again, _, e := history.Parse(text); e != api.OK || !history.Equal(again, events) {
			t.Fatalf("%q", text)
		}
		checkRows(t, s, events)
	}
}

// checkRows checks the texts and encodings of the rows of a history.
func checkRows(t *testing.T, s api.Schema, events []api.Event) {
	t.Helper()
	st := store.New(s)
	for _, e := range events {
		for _, row := range e.Rows {
			for _, v := range row {
				if again, err := value.Parse(value.Format(v)); err != api.OK || again != v {
					t.Fatalf("%v", v)
				}
			}
			if again, err := rowcodec.DecodeRow(rowcodec.EncodeRow(row)); err != api.OK || value.CompareRows(again, row) != 0 {
				t.Fatalf("%v", row)
			}
		}
		for _, w := range e.Waits {
			st.Apply(api.Change{Table: w.Table, ID: st.Table(w.Table).Next(), New: w.Row})
		}
	}
	again, err := store.Decode(s, st.Encode())
	if err != api.OK {
		t.Fatal(err)
	}
	for table := range s {
		if !again.Bag(table).Equal(st.Bag(table)) {
			t.Fatal("other rows")
		}
	}
}

// TestReadme executes the example of README.md.
func TestReadme(t *testing.T) {
	got := Run(`schema CREATE TABLE account (id INTEGER(0, 999), owner TEXT(8), balance INTEGER(0, 100000), PRIMARY KEY (id));
session INSERT INTO account VALUES (7, 'ann', 100), (200, 'bob', 50);
session SELECT SUM(balance) FROM account WHERE id > 100;
open 200
step 0
step 1
explain
run 10
rows account
verify
conflict DELETE FROM account WHERE id % 2 = 0; SELECT * FROM account WHERE id % 2 = 1;
`)
	want := `begin 0 1 0
count 0 1 0 2
begin 1 2 0
wait 1 2 0
for 1 0 (200, 'bob', 50)
transaction 2 waits for transaction 1: row (id = 200, owner = 'bob', balance = 50) of account
commit 0 1 0
grant 1 2 0
rows 1 2 0
row (50)
commit 1 2 0
(7, 'ann', 100)
(200, 'bob', 50)
ok
no conflict
`
	if got != want {
		t.Errorf("%s", got)
	}
}
