package engine

import (
	"reflect"
	"slices"
	"strconv"
	"strings"
	"testing"

	"disjoint/api"
	"disjoint/binder"
	"disjoint/disk"
	"disjoint/parser"
	"disjoint/predicate"
	"disjoint/recovery"
	"disjoint/schema"
	"disjoint/store"
	"disjoint/value"
)

const tables = `
CREATE TABLE t (a INTEGER(0, 9), b INTEGER(0, 99), UNIQUE (a), CHECK (a <> 7 OR b > 50));
CREATE TABLE u (k INTEGER(0, 9), FOREIGN KEY (k) REFERENCES t (a));
CREATE TABLE w (a INTEGER(0, 9));`

func build(t *testing.T, text string) api.Schema {
	t.Helper()
	l, offset, e := parser.Script(text)
	if e != api.OK {
		t.Fatalf("%d at %d", e, offset)
	}
	s, _, e := schema.Build(l)
	if e != api.OK {
		t.Fatal(e)
	}
	s, e = binder.Schema(s)
	if e != api.OK {
		t.Fatal(e)
	}
	return s
}

func parse(t *testing.T, scripts ...string) [][]api.Statement {
	t.Helper()
	var l [][]api.Statement
	for _, text := range scripts {
		if text != "" && !strings.HasSuffix(text, "; ") {
			text += ";"
		}
		script, offset, e := parser.Script(text)
		if e != api.OK {
			t.Fatalf("%q: %d at %d", text, e, offset)
		}
		l = append(l, script)
	}
	return l
}

func formatted(t *testing.T, s api.Schema, sectors int) *disk.Disk {
	t.Helper()
	d, e := disk.New(sectors)
	if e != api.OK {
		t.Fatal(e)
	}
	if e := recovery.Format(d, s); e != api.OK {
		t.Fatal(e)
	}
	return d
}

func start(t *testing.T, sectors int, scripts ...string) *Engine {
	t.Helper()
	s := build(t, tables)
	e, err := New(formatted(t, s, sectors), s, parse(t, scripts...))
	if err != api.OK {
		t.Fatal(err)
	}
	return e
}

var (
	checkpoint = api.Action{Kind: api.ActCheckpoint}
	crash      = api.Action{Kind: api.ActCrash}
	recover1   = api.Action{Kind: api.ActRecover}
)

func step(session int) api.Action { return api.Action{Kind: api.ActStep, Session: session} }

// text returns a short text for an event, such as "count 0:1@2 5": the session, the transaction, the position and what else matters.
func text(ev api.Event) string {
	names := []string{"", "begin", "wait", "grant", "rows", "count", "done", "error", "commit", "rollback", "abort", "checkpoint", "crash", "recover"}
	s := names[ev.Kind]
	if ev.Kind < api.EvCheckpoint {
		s += " " + strconv.Itoa(ev.Session) + ":" + strconv.FormatInt(ev.Txn, 10) + "@" + strconv.Itoa(ev.Statement)
	}
	switch ev.Kind {
	case api.EvCount:
		s += " " + strconv.Itoa(ev.Count)
	case api.EvError, api.EvAbort:
		s += " " + strconv.Itoa(int(ev.Errno))
	case api.EvRows:
		for _, r := range ev.Rows {
			s += " " + value.FormatRow(r)
		}
	case api.EvWait:
		for _, w := range ev.Waits {
			s += " " + strconv.FormatInt(w.Txn, 10)
		}
	}
	return s
}

func texts(l []api.Event) string {
	var words []string
	for _, ev := range l {
		words = append(words, text(ev))
	}
	return strings.Join(words, "; ")
}

// expect performs actions, each with the events that it leads to.
type expect struct {
	action api.Action
	events string
}

func perform(t *testing.T, e *Engine, l []expect) {
	t.Helper()
	var all []api.Event
	for i, x := range l {
		first := len(e.History())
		got := e.Do(x.action)
		if texts(got) != x.events {
			t.Fatalf("action %d %+v: %q instead of %q", i, x.action, texts(got), x.events)
		}
		if !reflect.DeepEqual(e.History()[first:], got) && len(got) > 0 {
			t.Fatalf("action %d: the history is %v", i, e.History())
		}
		all = append(all, got...)
	}
	if len(e.History()) < len(all) {
		t.Fatal("the history is too short")
	}
}

// contents returns the rows of a table, in ascending order.
func contents(st *store.Store, table int) string {
	var l []string
	for _, r := range st.Table(table).All() {
		l = append(l, value.FormatRow(r))
	}
	slices.Sort(l)
	return strings.Join(l, " ")
}

func TestExample(t *testing.T) {
	e := start(t, 100, "UPDATE w SET a = 2 WHERE a = 1", "DELETE FROM w WHERE a = 2")
	perform(t, e, []expect{
		{step(0), "begin 0:1@0; count 0:1@0 0"},
		{step(1), "begin 1:2@0; count 1:2@0 0"},
		{step(0), "commit 0:1@0"},
		{step(1), "commit 1:2@0"},
		{step(0), ""},
		{step(1), ""},
	})
	if !e.Done() || e.Down() || e.Ready(0) || e.Ready(1) {
		t.Error("the scripts have not been executed")
	}
}

func TestStatements(t *testing.T) {
	e := start(t, 100, "INSERT INTO w VALUES (1), (2); BEGIN; SAVEPOINT a; DELETE FROM w; ROLLBACK TO a; RELEASE a; RELEASE a; SELECT a FROM w ORDER BY 1; COMMIT; BEGIN; UPDATE w SET a = a + 1; ROLLBACK; SELECT * FROM w ORDER BY 1; COMMIT; ROLLBACK; BEGIN; BEGIN; CREATE TABLE x (a INTEGER); SELECT b FROM w; SELECT a FROM x; SELECT a FROM w WHERE a < -(1048576 * 1048576); UPDATE w SET a = a + 8; INSERT INTO w VALUES (3)")
	perform(t, e, []expect{
		{step(0), "begin 0:1@0; count 0:1@0 2"},
		{step(0), "commit 0:1@0"},
		{step(0), "begin 0:9@1"},
		{step(0), "done 0:9@2"},
		{step(0), "count 0:9@3 2"},
		{step(0), "done 0:9@4"},
		{step(0), "done 0:9@5"},
		{step(0), "error 0:9@6 4"},
		{step(0), "rows 0:9@7 (1) (2)"},
		{step(0), "commit 0:9@8"},
		{step(0), "begin 0:17@9"},
		{step(0), "count 0:17@10 2"},
		{step(0), "rollback 0:17@11"},
		{step(0), "begin 0:25@12; rows 0:25@12 (1) (2)"},
		{step(0), "commit 0:25@12"},
		{step(0), "begin 0:33@13; error 0:33@13 13"},
		{step(0), "commit 0:33@13"},
		{step(0), "begin 0:41@14; error 0:41@14 13"},
		{step(0), "commit 0:41@14"},
		{step(0), "begin 0:49@15"},
		{step(0), "error 0:49@16 13"},
		{step(0), "error 0:49@17 13"},
		{step(0), "error 0:49@18 4"},
		{step(0), "error 0:49@19 4"},
		{step(0), "error 0:49@20 3"},
		{step(0), "error 0:49@21 9"},
		{step(0), "count 0:49@22 1"},
		{step(0), "commit 0:49@22"},
		{step(0), ""},
	})
	if got := contents(e.Store(), 2); got != "(1) (2) (3)" || !e.Done() {
		t.Errorf("%s %v", got, e.Done())
	}
}

// A BEGIN statement at the end of a script is a transaction that commits implicitly.
func TestBeginAlone(t *testing.T) {
	e := start(t, 100, "BEGIN", "", "BEGIN; COMMIT", "BEGIN; ROLLBACK")
	perform(t, e, []expect{
		{step(0), "begin 0:1@0"}, {step(0), "commit 0:1@0"}, {step(1), ""},
		{step(2), "begin 2:3@0"}, {step(2), "commit 2:3@1"},
		{step(3), "begin 3:4@0"}, {step(3), "rollback 3:4@1"},
	})
	if !e.Done() {
		t.Error("not done")
	}
}

func TestNoEffect(t *testing.T) {
	e := start(t, 100, "SELECT * FROM w")
	for _, a := range []api.Action{step(-1), step(1), step(8), {}, {Kind: -1}, {Kind: 5}, recover1, {Kind: api.ActCrash, Writes: 5}, {Kind: 0, Session: 0}} {
		if l := e.Do(a); len(l) > 0 {
			t.Errorf("%+v: %s", a, texts(l))
		}
	}
	if e.Ready(-1) || e.Ready(1) || !e.Ready(0) || e.Done() || e.Down() || len(e.History()) > 0 {
		t.Error("something changed")
	}
}

func TestWaits(t *testing.T) {
	e := start(t, 100, "BEGIN; INSERT INTO w VALUES (3); COMMIT", "SELECT COUNT(*) FROM w WHERE a < 5", "DELETE FROM w WHERE a = 3", "SELECT COUNT(*) FROM w WHERE a > 5")
	perform(t, e, []expect{
		{step(0), "begin 0:1@0"},
		{step(0), "count 0:1@1 1"},
		{step(1), "begin 1:2@0; wait 1:2@0 1"},
		{step(2), "begin 2:3@0; wait 2:3@0 1 2"},
		{step(3), "begin 3:4@0; rows 3:4@0 (0)"},
		{step(1), ""},
	})
	if e.Ready(1) || e.Ready(2) || !e.Ready(0) || !e.Ready(3) {
		t.Error("the wrong sessions wait")
	}
	for _, ev := range e.History() {
		for _, w := range ev.Waits {
			if w.Table != 2 || !reflect.DeepEqual(w.Row, api.Row{value.Int(3)}) {
				t.Errorf("the reason %v", w)
			}
		}
	}
	perform(t, e, []expect{
		{step(0), "commit 0:1@2; grant 1:2@0"},
		{step(1), "rows 1:2@0 (1)"},
		{step(2), ""},
		{step(1), "commit 1:2@0; grant 2:3@0"},
		{step(2), "count 2:3@0 1"},
		{step(2), "commit 2:3@0"},
		{step(3), "commit 3:4@0"},
	})
	if got := contents(e.Store(), 2); got != "" || !e.Done() {
		t.Error(got)
	}
}

// After the execution of a statement its locks are reduced, so that others are granted.
func TestReduce(t *testing.T) {
	e := start(t, 100, "INSERT INTO w VALUES (1)", "BEGIN; DELETE FROM w WHERE a = 9; COMMIT", "BEGIN; SELECT * FROM w WHERE a = 9; COMMIT", "BEGIN; UPDATE w SET a = a + 9; COMMIT")
	perform(t, e, []expect{
		{step(0), "begin 0:1@0; count 0:1@0 1"},
		{step(0), "commit 0:1@0"},
		{step(1), "begin 1:2@0"}, {step(2), "begin 2:3@0"}, {step(3), "begin 3:4@0"},
		{step(1), "count 1:2@1 0"},
		// 2 and 1 both read the rows with a = 9.
		{step(2), "rows 2:3@1"},
		// The update would write them.
		{step(3), "wait 3:4@1 2 3"},
		{step(1), "commit 1:2@2"},
		{step(2), "commit 2:3@2; grant 3:4@1"},
		// After an error the update has read all rows, and written none.
		{step(3), "error 3:4@1 9"},
	})
	held := e.Locks().Held(4)
	if len(held) != 1 || held[0].Write || held[0].Predicate.Table != 2 {
		t.Errorf("%v", held)
	}
	perform(t, e, []expect{{step(3), "commit 3:4@2"}})
}

// The reduction of locks grants a request that waited for the footprint.
func TestGrantAfterStatement(t *testing.T) {
	e := start(t, 100, "BEGIN; SELECT * FROM w WHERE a = 1; ROLLBACK", "BEGIN; DELETE FROM w WHERE a <= 5; COMMIT", "INSERT INTO w VALUES (1), (8)", "SELECT * FROM w WHERE a = 2")
	perform(t, e, []expect{
		{step(2), "begin 2:3@0; count 2:3@0 2"}, {step(2), "commit 2:3@0"},
		{step(0), "begin 0:1@0"}, {step(0), "rows 0:1@1 (1)"},
		{step(1), "begin 1:2@0"}, {step(1), "wait 1:2@1 1"},
		{step(3), "begin 3:4@0; wait 3:4@0 2"},
		{step(0), "rollback 0:1@2; grant 1:2@1"},
		{step(1), "count 1:2@1 1; grant 3:4@0"},
		{step(3), "rows 3:4@0"}, {step(3), "commit 3:4@0"},
		{step(1), "commit 1:2@2"},
	})
}

func TestDeadlock(t *testing.T) {
	e := start(t, 100, "BEGIN; INSERT INTO w VALUES (1); SELECT * FROM w WHERE a = 2; COMMIT", "BEGIN; INSERT INTO w VALUES (2); SELECT * FROM w WHERE a = 1; COMMIT")
	perform(t, e, []expect{
		{step(0), "begin 0:1@0"}, {step(1), "begin 1:2@0"},
		{step(0), "count 0:1@1 1"}, {step(1), "count 1:2@1 1"},
		{step(1), "wait 1:2@2 1"},
		{step(0), "wait 0:1@2 2; abort 1:2@2 14; grant 0:1@2"},
	})
	if got := contents(e.Store(), 2); got != "(1)" {
		t.Error(got)
	}
	perform(t, e, []expect{
		{step(1), "begin 1:2@0"},
		// The granted transaction reads the rows with a = 2.
		{step(1), "wait 1:2@1 1"},
		{step(0), "rows 0:1@2"},
		{step(0), "commit 0:1@3; grant 1:2@1"},
		{step(1), "count 1:2@1 1"},
		{step(1), "rows 1:2@2 (1)"},
		{step(1), "commit 1:2@3"},
	})
	e = start(t, 100, "BEGIN; INSERT INTO w VALUES (1); SELECT * FROM w WHERE a = 2; COMMIT", "BEGIN; INSERT INTO w VALUES (2); SELECT * FROM w WHERE a = 1; COMMIT")
	perform(t, e, []expect{
		{step(0), "begin 0:1@0"}, {step(1), "begin 1:2@0"},
		{step(0), "count 0:1@1 1"}, {step(1), "count 1:2@1 1"},
		{step(0), "wait 0:1@2 2"},
		// The transaction that waits is the victim itself.
		{step(1), "wait 1:2@2 1; abort 1:2@2 14; grant 0:1@2"},
		{step(1), "begin 1:2@0"},
		{step(1), "wait 1:2@1 1"},
		{step(0), "rows 0:1@2"},
		{step(0), "commit 0:1@3; grant 1:2@1"},
		{step(1), "count 1:2@1 1"},
	})
}

// Keys are read at the commit: example 6 of DOC.md.
func TestUnique(t *testing.T) {
	e := start(t, 100, "BEGIN; INSERT INTO t VALUES (5, 1); COMMIT", "BEGIN; INSERT INTO t VALUES (5, 2); COMMIT", "BEGIN; DELETE FROM t WHERE b = 9; ROLLBACK")
	perform(t, e, []expect{
		{step(0), "begin 0:1@0"}, {step(1), "begin 1:2@0"},
		{step(0), "count 0:1@1 1"}, {step(1), "count 1:2@1 1"},
		{step(0), "wait 0:1@2 2"},
		{step(1), "wait 1:2@2 1; abort 1:2@2 14; grant 0:1@2"},
		{step(1), "begin 1:2@0"},
		{step(1), "wait 1:2@1 1"},
		{step(0), "commit 0:1@2; grant 1:2@1"},
		{step(1), "count 1:2@1 1"},
		{step(1), "abort 1:2@2 11"},
	})
	if got := contents(e.Store(), 0); got != "(5, 1)" || e.Ready(1) {
		t.Error(got)
	}
}

func TestForeign(t *testing.T) {
	e := start(t, 100, "INSERT INTO u VALUES (3)", "BEGIN; INSERT INTO t VALUES (3, 1); ROLLBACK", "BEGIN; INSERT INTO t VALUES (4, 1); COMMIT; BEGIN; INSERT INTO u VALUES (4); COMMIT", "BEGIN; DELETE FROM t; COMMIT")
	perform(t, e, []expect{
		{step(1), "begin 1:2@0"}, {step(1), "count 1:2@1 1"},
		{step(0), "begin 0:1@0; count 0:1@0 1"},
		{step(0), "wait 0:1@0 2"},
		{step(1), "rollback 1:2@2; grant 0:1@0"},
		{step(0), "abort 0:1@0 12"},
		{step(2), "begin 2:3@0"}, {step(2), "count 2:3@1 1"}, {step(2), "commit 2:3@2"},
		{step(3), "begin 3:4@0"}, {step(3), "count 3:4@1 1"},
		{step(2), "begin 2:11@3"}, {step(2), "count 2:11@4 1"},
		// The deletion is not committed, so that the commit waits for it; but the deletion waits for the row of u, too.
		{step(3), "wait 3:4@2 11"},
		{step(2), "wait 2:11@5 4; abort 2:11@5 14; grant 3:4@2"},
		{step(3), "commit 3:4@2"},
	})
	if contents(e.Store(), 0) != "" || contents(e.Store(), 1) != "" {
		t.Error("wrong rows")
	}
}

func TestCheckpoint(t *testing.T) {
	e := start(t, 100, "INSERT INTO w VALUES (1)")
	perform(t, e, []expect{
		{checkpoint, "checkpoint"},
		{step(0), "begin 0:1@0; count 0:1@0 1"},
		{checkpoint, "checkpoint"},
		{step(0), "commit 0:1@0"},
		{checkpoint, "checkpoint"},
		{crash, "crash"},
		{checkpoint, ""},
		{recover1, "recover"},
		{api.Action{Kind: api.ActCrash, Writes: 1, Bytes: 7}, ""},
		{checkpoint, "crash"},
		{checkpoint, ""},
		{recover1, "recover"},
		{checkpoint, "checkpoint"},
	})
	if got := contents(e.Store(), 2); got != "(1)" {
		t.Error(got)
	}
}

func TestCrash(t *testing.T) {
	e := start(t, 100, "BEGIN; INSERT INTO w VALUES (1); COMMIT; INSERT INTO w VALUES (2)", "BEGIN; DELETE FROM w WHERE a = 5; SELECT * FROM w; COMMIT", "SELECT * FROM w WHERE a = 1")
	perform(t, e, []expect{
		{step(0), "begin 0:1@0"}, {step(0), "count 0:1@1 1"}, {step(0), "commit 0:1@2"},
		{step(0), "begin 0:9@3; count 0:9@3 1"},
		{step(1), "begin 1:2@0"}, {step(1), "count 1:2@1 0"}, {step(1), "wait 1:2@2 9"},
		{step(2), "begin 2:3@0; rows 2:3@0 (1)"},
		{api.Action{Kind: api.ActCrash, Writes: -3, Bytes: 5}, "crash"},
		{step(0), ""}, {step(1), ""}, {step(2), ""}, {crash, ""}, {api.Action{Kind: api.ActCrash, Writes: 1}, ""}, {checkpoint, ""},
	})
	if !e.Down() || e.Store() != nil || e.Locks() != nil || e.Ready(0) || e.Ready(2) || e.Done() {
		t.Error("the engine is not down")
	}
	perform(t, e, []expect{{recover1, "recover"}, {recover1, ""}})
	if got := contents(e.Store(), 2); got != "(1)" || e.Down() || len(e.Locks().Held(9)) > 0 || !e.Ready(0) || !e.Ready(1) {
		t.Error(got)
	}
	perform(t, e, []expect{
		{step(1), "begin 1:2@0"}, {step(1), "count 1:2@1 0"}, {step(1), "rows 1:2@2 (1)"}, {step(1), "commit 1:2@3"},
		{step(2), "begin 2:3@0; rows 2:3@0 (1)"}, {step(2), "commit 2:3@0"},
		{step(0), "begin 0:9@3; count 0:9@3 1"}, {step(0), "commit 0:9@3"},
	})
	if got := contents(e.Store(), 2); got != "(1) (2)" || !e.Done() {
		t.Error(got)
	}
}

// A session whose request was granted before a crash requests its locks again.
func TestCrashAfterGrant(t *testing.T) {
	e := start(t, 100, "BEGIN; DELETE FROM w WHERE a = 1; INSERT INTO w VALUES (1); ROLLBACK", "DELETE FROM w")
	perform(t, e, []expect{
		{step(0), "begin 0:1@0"}, {step(0), "count 0:1@1 0"},
		{step(1), "begin 1:2@0; wait 1:2@0 1"},
		{step(0), "count 0:1@2 1"},
		{step(0), "rollback 0:1@3; grant 1:2@0"},
		{crash, "crash"}, {recover1, "recover"},
		{step(1), "begin 1:2@0; count 1:2@0 0"}, {step(1), "commit 1:2@0"},
	})
}

// TestDoubt lets the disk fail in each write of a commit, after each number of bytes.
func TestDoubt(t *testing.T) {
	outcomes := map[string]int{}
	for writes := 1; outcomes["commit 0:1@2"] == 0; writes++ {
		for bytes := 0; bytes <= 64; bytes += 4 {
			e := start(t, 100, "BEGIN; INSERT INTO w VALUES (1), (2), (3), (4), (5); COMMIT; INSERT INTO w VALUES (8)", "INSERT INTO w VALUES (6)")
			perform(t, e, []expect{
				{step(0), "begin 0:1@0"}, {step(0), "count 0:1@1 5"}, {step(1), "begin 1:2@0; count 1:2@0 1"},
				{api.Action{Kind: api.ActCrash, Writes: writes, Bytes: bytes}, ""},
			})
			got := texts(e.Do(step(0)))
			if got == "crash" {
				if !e.Down() || e.Ready(0) {
					t.Fatal("the engine is not down")
				}
				got += "; " + texts(e.Do(recover1))
			}
			outcomes[got]++
			rows, next := "(1) (2) (3) (4) (5)", "begin 0:9@3; count 0:9@3 1"
			if got == "crash; recover" {
				rows, next = "", "begin 0:1@0"
			} else if got == "commit 0:1@2" {
				rows += " (6)"
			}
			if c := contents(e.Store(), 2); c != rows {
				t.Fatalf("%d, %d: %s, but the rows %s", writes, bytes, got, c)
			}
			perform(t, e, []expect{{step(0), next}})
		}
	}
	if len(outcomes) != 3 || outcomes["crash; recover"] == 0 || outcomes["crash; recover; commit 0:1@2"] == 0 || outcomes["commit 0:1@2"] == 0 {
		t.Errorf("%v", outcomes)
	}
}

// A transaction that inserts rows, and two that change all of them, so that the log becomes full before the state does.
var growing = strings.Repeat("INSERT INTO w VALUES (1), (2), (3), (4); UPDATE w SET a = 9 - a; UPDATE w SET a = 9 - a; ", 20)

// The log becomes full, so that a commit makes space by a checkpoint; finally the state becomes too large.
func TestFull(t *testing.T) {
	e := start(t, 60, growing)
	full, spaces, rows := 0, 0, 0
	for step0 := 0; !e.Done(); step0++ {
		before := contents(e.Store(), 2)
		inserted := 0
		for i := range 2 {
			l := e.Do(step(0))
			last := l[len(l)-1]
			switch {
			case i == 0:
				if step0%3 == 0 {
					inserted = last.Count
				}
			case last.Kind == api.EvCommit:
				rows += inserted
				if len(l) == 2 && l[0].Kind == api.EvCheckpoint {
					spaces++
				} else if len(l) > 1 {
					t.Fatal(texts(l))
				}
			default:
				full++
				if len(l) != 2 || l[0].Kind != api.EvCheckpoint || last.Kind != api.EvAbort || last.Errno != api.ErrFull {
					t.Fatal(texts(l))
				}
				if contents(e.Store(), 2) != before {
					t.Fatal("the transaction has not been rolled back")
				}
			}
		}
	}
	if e.Store().Table(2).Len() != rows || rows == 0 || spaces == 0 || full == 0 {
		t.Errorf("%d rows, %d times space, %d times full", rows, spaces, full)
	}
}

// The disk fails in each write of a commit that makes space by a checkpoint.
func TestCrashWhileFull(t *testing.T) {
	e := start(t, 60, growing)
	steps, before := 0, ""
	for {
		before = contents(e.Store(), 2)
		e.Do(step(0))
		if l := e.Do(step(0)); l[0].Kind == api.EvCheckpoint {
			break
		}
		steps += 2
	}
	after := contents(e.Store(), 2)
	outcomes := map[string]int{}
	done := false
	for writes := 1; !done; writes++ {
		e := start(t, 60, growing)
		for range steps + 1 {
			e.Do(step(0))
		}
		e.Do(api.Action{Kind: api.ActCrash, Writes: writes, Bytes: 64})
		l := e.Do(step(0))
		done = !e.Down()
		if e.Down() {
			l = append(l, e.Do(recover1)...)
		}
		want := before
		for i := range l {
			if l[i].Kind == api.EvCommit {
				want = after
			}
			l[i].Txn, l[i].Statement = 0, 0
		}
		if contents(e.Store(), 2) != want {
			t.Fatalf("%d: wrong rows after %s", writes, texts(l))
		}
		outcomes[texts(l)]++
	}
	want := []string{"crash; recover", "checkpoint; crash; recover", "checkpoint; crash; recover; commit 0:0@0", "checkpoint; commit 0:0@0"}
	for _, w := range want {
		if outcomes[w] == 0 {
			t.Errorf("never %s", w)
		}
	}
	if len(outcomes) != len(want) {
		t.Errorf("%v", outcomes)
	}
}

func TestNewErrors(t *testing.T) {
	s := build(t, tables)
	d := formatted(t, s, 100)
	if e, err := New(d, s, make([][]api.Statement, 9)); e != nil || err != api.ErrInvalid {
		t.Errorf("9 scripts: %d", err)
	}
	if e, err := New(d, s, make([][]api.Statement, 8)); e == nil || err != api.OK || !e.Done() {
		t.Errorf("8 scripts: %d", err)
	}
	invalid := [][]api.Statement{nil, {{Kind: api.StmtBegin}, {Kind: 12}}}
	if e, err := New(d, s, invalid); e != nil || err != api.ErrInvalid {
		t.Errorf("an invalid statement: %d", err)
	}
	empty, _ := disk.New(100)
	if e, err := New(empty, s, nil); e != nil || err != api.ErrNotFound {
		t.Errorf("an empty disk: %d", err)
	}
	if e, err := New(empty, s, invalid); e != nil || err != api.ErrInvalid {
		t.Errorf("an empty disk and an invalid statement: %d", err)
	}
	d.Fail()
	if e, err := New(d, s, nil); e != nil || err != api.ErrCrash {
		t.Errorf("a failed disk: %d", err)
	}
}

func TestRun(t *testing.T) {
	s := build(t, tables)
	invalid := [][]api.Statement{{{Kind: 12}}}
	for _, c := range []struct {
		sectors int
		scripts [][]api.Statement
		want    api.Errno
	}{{0, nil, api.ErrInvalid}, {-1, invalid, api.ErrInvalid}, {70000, nil, api.ErrInvalid}, {4, nil, recovery.Format(small(t, 4), s)}, {20, nil, recovery.Format(small(t, 20), s)}, {100, invalid, api.ErrInvalid}, {100, make([][]api.Statement, 9), api.ErrInvalid}} {
		if l, err := Run(c.sectors, s, c.scripts, []api.Action{checkpoint}); err != c.want || c.want != api.OK && l != nil {
			t.Errorf("%d sectors: %d instead of %d", c.sectors, err, c.want)
		}
	}
	scripts := parse(t, "INSERT INTO w VALUES (1)")
	actions := []api.Action{step(0), checkpoint, step(0), crash, step(0), recover1}
	l, err := Run(100, s, scripts, actions)
	if err != api.OK || texts(l) != "begin 0:1@0; count 0:1@0 1; checkpoint; commit 0:1@0; crash; recover" {
		t.Errorf("%d %s", err, texts(l))
	}
	// The events contain nothing but what is specified.
	want := []api.Event{{Kind: api.EvBegin, Txn: 1}, {Kind: api.EvCount, Txn: 1, Count: 1}, {Kind: api.EvCheckpoint}, {Kind: api.EvCommit, Txn: 1}, {Kind: api.EvCrash}, {Kind: api.EvRecover}}
	if !reflect.DeepEqual(l, want) {
		t.Errorf("%+v", l)
	}
}

func small(t *testing.T, sectors int) *disk.Disk {
	d, err := disk.New(sectors)
	if err != api.OK {
		t.Fatal(err)
	}
	return d
}

func TestSharing(t *testing.T) {
	s := build(t, tables)
	scripts := parse(t, "BEGIN; INSERT INTO w VALUES (1); SELECT * FROM w", "SELECT * FROM w")
	e, _ := New(formatted(t, s, 100), s, scripts)
	scripts[0][1].Values[0][0].Value.Int = 5
	scripts[1][0].From[0].Table = "u"
	s[2].Name = "changed"
	perform(t, e, []expect{{step(0), "begin 0:1@0"}, {step(0), "count 0:1@1 1"}, {step(0), "rows 0:1@2 (1)"}, {step(1), "begin 1:2@0; wait 1:2@0 1"}})
	l := e.History()
	l[2].Rows[0][0] = value.Int(7)
	l[4].Waits[0].Txn = 9
	l[4].Waits[0].Row[0] = value.Int(8)
	st := e.Store()
	st.Apply(api.Change{Table: 2, ID: 99, New: api.Row{value.Int(3)}})
	if contents(e.Store(), 2) != "(1)" {
		t.Error("Store shares memory")
	}
	l = e.History()
	if w := l[4].Waits[0]; text(l[2]) != "rows 0:1@2 (1)" || w.Txn != 1 || w.Row[0].Int != 1 {
		t.Errorf("%v", l)
	}
	got := e.Do(step(0))
	got[0].Txn = 77
	if last := e.History(); last[len(last)-2].Txn != 1 {
		t.Error("Do shares memory")
	}
}

// A witness of each reason belongs to the request and to a lock or a request of the other transaction.
func TestReasons(t *testing.T) {
	e := start(t, 100, "BEGIN; UPDATE t SET b = b + 1 WHERE a < 4; SELECT * FROM u; COMMIT", "BEGIN; INSERT INTO t VALUES (2, 2); COMMIT")
	perform(t, e, []expect{{step(0), "begin 0:1@0"}, {step(0), "count 0:1@1 0"}, {step(1), "begin 1:2@0"}, {step(1), "wait 1:2@1 1"}})
	l := e.History()
	w := l[len(l)-1].Waits[0]
	in := slices.ContainsFunc(e.Locks().Held(1), func(a api.Access) bool {
		return a.Predicate.Table == w.Table && predicate.Matches(a.Predicate, w.Row)
	})
	if !in || value.FormatRow(w.Row) != "(2, 2)" {
		t.Errorf("%v", w)
	}
}

// A database that cannot be opened leaves the engine down.
func TestDamage(t *testing.T) {
	s := build(t, tables)
	d := formatted(t, s, 100)
	e, _ := New(d, s, parse(t, "SELECT * FROM w"))
	perform(t, e, []expect{{step(0), "begin 0:1@0; rows 0:1@0"}, {crash, "crash"}})
	d.Restart()
	root, _ := d.Read(0)
	d.Write(0, slices.Repeat([]byte{7}, len(root)))
	perform(t, e, []expect{{recover1, ""}, {step(0), ""}})
	if !e.Down() || e.Store() != nil || e.Locks() != nil {
		t.Error("the engine is up")
	}
	d.Restart()
	d.Write(0, root)
	perform(t, e, []expect{{recover1, "recover"}, {step(0), "begin 0:1@0; rows 0:1@0"}, {step(0), "commit 0:1@0"}})
}
