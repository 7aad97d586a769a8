package schedule

import (
	"math/rand"
	"reflect"
	"slices"
	"strconv"
	"testing"

	"disjoint/api"
	"disjoint/binder"
	"disjoint/constraint"
	"disjoint/disk"
	"disjoint/engine"
	"disjoint/parser"
	"disjoint/recovery"
	"disjoint/schema"
	"disjoint/session"
)

const sectors = 300

func build(t *testing.T) api.Schema {
	t.Helper()
	l, offset, e := parser.Script(`
		CREATE TABLE t (a INTEGER(0, 9), b INTEGER(0, 99), UNIQUE (a), CHECK (a <> 7 OR b > 50));
		CREATE TABLE u (k INTEGER(0, 9), n TEXT(4), FOREIGN KEY (k) REFERENCES t (a));`)
	if e != api.OK {
		t.Fatalf("%d at %d", e, offset)
	}
	s, _, e := schema.Build(l)
	if e != api.OK {
		t.Fatal(e)
	}
	s, e = binder.Schema(s)
	if e != api.OK {
		t.Fatal(e)
	}
	return s
}

// randomStatement returns a statement that often conflicts with others, and often violates constraints.
func randomStatement(r *rand.Rand) string {
	n := func(k int) string { return strconv.Itoa(r.Intn(k)) }
	where := []string{"a < 5", "a = " + n(10), "a % 2 = 0", "b < a", "b = " + n(3)}[r.Intn(5)]
	return []string{
		"INSERT INTO t VALUES (" + n(10) + ", " + n(100) + ")",
		"INSERT INTO t VALUES (" + n(10) + ", 1), (" + n(11) + ", 2)",
		"UPDATE t SET b = b + " + n(30) + " WHERE " + where,
		"UPDATE t SET a = 9 - a WHERE " + where,
		"DELETE FROM t WHERE " + where,
		"INSERT INTO u VALUES (" + n(10) + ", 'x')",
		"INSERT INTO u VALUES (" + n(10) + ", 'yy')",
		"DELETE FROM u WHERE k = " + n(10),
		"SELECT k, b, n FROM t, u WHERE t.a = u.k AND t.a < " + n(10),
		"SELECT COUNT(*) FROM u WHERE n LIKE 'x%' AND k > " + n(10),
		"SELECT a, b FROM t WHERE " + where,
	}[r.Intn(11)] + "; "
}

// randomScripts returns scripts whose transactions are mostly committed.
func randomScripts(t *testing.T, r *rand.Rand) [][]api.Statement {
	t.Helper()
	var scripts [][]api.Statement
	for range 2 + r.Intn(4) {
		text := ""
		for range 1 + r.Intn(4) {
			text += "BEGIN; "
			for range 1 + r.Intn(4) {
				text += randomStatement(r)
			}
			text += []string{"COMMIT; ", "COMMIT; ", "ROLLBACK; "}[r.Intn(3)]
			text += randomStatement(r)
		}
		l, offset, e := parser.Script(text)
		if e != api.OK {
			t.Fatalf("%q: %d at %d", text, e, offset)
		}
		scripts = append(scripts, l)
	}
	return scripts
}

// start returns an engine that has performed some actions.
func start(t *testing.T, s api.Schema, scripts [][]api.Statement, l []api.Action) *engine.Engine {
	t.Helper()
	d, _ := disk.New(sectors)
	if err := recovery.Format(d, s); err != api.OK {
		t.Fatal(err)
	}
	e, err := engine.New(d, s, scripts)
	if err != api.OK {
		t.Fatal(err)
	}
	for _, a := range l {
		e.Do(a)
	}
	return e
}

// TestCommittedStates tests the first sentence of T8: a crash after each commit shows the committed state.
func TestCommittedStates(t *testing.T) {
	s := build(t)
	r := rand.New(rand.NewSource(87))
	violations, commits := 0, 0
	for seed := range uint64(25) {
		scripts := randomScripts(t, r)
		rates := Rates{20, 20}
		if seed%2 == 0 {
			rates = Rates{}
		}
		l := Random(len(scripts), 250, rates, seed)
		e := start(t, s, scripts, nil)
		for i, a := range l {
			for _, ev := range e.Do(a) {
				if ev.Kind == api.EvAbort && ev.Errno != api.ErrDeadlock {
					violations++
				}
				if ev.Kind != api.EvCommit {
					continue
				}
				commits++
				committed := start(t, s, scripts, l[:i+1])
				committed.Do(crash(0, 0))
				committed.Do(recover1)
				if err := constraint.All(s, committed.Store()); err != api.OK {
					t.Fatalf("seed %d: %d after %+v", seed, err, ev)
				}
			}
		}
	}
	if violations < 20 || commits < 100 {
		t.Errorf("%d commits, %d violations", commits, violations)
	}
}

// outcome returns the event that ends the transaction of a session in its next step.
func outcome(e *engine.Engine, number int) (int, api.Errno) {
	l := e.Do(step(number))
	i := slices.IndexFunc(l, func(ev api.Event) bool { return ev.Kind == api.EvCommit || ev.Kind == api.EvAbort })
	if i < 0 || l[i].Session != number {
		return 0, api.OK
	}
	return l[i].Kind, l[i].Errno
}

// ends contains, for each session, the positions of the statements at which commits are performed.
func ends(scripts [][]api.Statement) []map[int]bool {
	var all []map[int]bool
	for _, script := range scripts {
		positions := map[int]bool{}
		for _, p := range session.Split(script) {
			positions[p[1]] = script[p[1]].Kind == api.StmtCommit
		}
		all = append(all, positions)
	}
	return all
}

// TestCommitLocks tests the second sentence of T8: a granted commit ends in the same way now, and after any steps of the other sessions.
func TestCommitLocks(t *testing.T) {
	s := build(t)
	r := rand.New(rand.NewSource(88))
	results := map[api.Errno]int{}
	changed := 0
	for seed := range uint64(120) {
		scripts := randomScripts(t, r)
		positions := ends(scripts)
		l := Random(len(scripts), 200, Rates{}, seed)
		e := start(t, s, scripts, nil)
		for i, a := range l {
			for _, ev := range e.Do(a) {
				if ev.Kind != api.EvGrant || !positions[ev.Session][ev.Statement] {
					continue
				}
				kind, errno := outcome(start(t, s, scripts, l[:i+1]), ev.Session)
				later := start(t, s, scripts, l[:i+1])
				before := later.Store()
				for range 10 {
					if other := r.Intn(len(scripts)); other != ev.Session {
						later.Do(step(other))
					}
				}
				if !reflect.DeepEqual(before.Encode(), later.Store().Encode()) {
					changed++
				}
				if k, n := outcome(later, ev.Session); kind == 0 || k != kind || n != errno {
					t.Fatalf("seed %d: %+v: %d %d, but later %d %d", seed, ev, kind, errno, k, n)
				}
				results[errno]++
			}
		}
	}
	if results[api.OK] == 0 || results[api.ErrUnique]+results[api.ErrForeign] == 0 || changed == 0 {
		t.Errorf("%v, %d times changes", results, changed)
	}
}

// checkVictims checks that no victim of a deadlock is the oldest open transaction, and returns the number of victims.
func checkVictims(t *testing.T, history []api.Event) int {
	t.Helper()
	open := map[int64]bool{}
	victims := 0
	for _, ev := range history {
		switch ev.Kind {
		case api.EvBegin:
			open[ev.Txn] = true
		case api.EvAbort:
			if ev.Errno == api.ErrDeadlock {
				victims++
				oldest := ev.Txn
				for n := range open {
					oldest = min(oldest, n)
				}
				if oldest == ev.Txn {
					t.Fatalf("the oldest transaction is a victim: %+v", ev)
				}
			}
			delete(open, ev.Txn)
		case api.EvCommit, api.EvRollback:
			delete(open, ev.Txn)
		case api.EvCrash:
			clear(open)
		}
	}
	return victims
}

// checkOrder checks that the transactions of each session end once each, and in order. It returns the number of transactions that ended for each session.
func checkOrder(t *testing.T, history []api.Event, sessions int) []int {
	t.Helper()
	ended := make([]int, sessions)
	for _, ev := range history {
		if ev.Kind == api.EvCommit || ev.Kind == api.EvRollback || ev.Kind == api.EvAbort && ev.Errno != api.ErrDeadlock {
			if want := int64(1 + ev.Session + api.MaxSessions*ended[ev.Session]); ev.Txn != want {
				t.Fatalf("%+v instead of transaction %d", ev, want)
			}
			ended[ev.Session]++
		}
	}
	return ended
}

// TestProgress tests T9 without crashes.
func TestProgress(t *testing.T) {
	s := build(t)
	r := rand.New(rand.NewSource(89))
	victims := 0
	for range 150 {
		scripts := randomScripts(t, r)
		round := RoundRobin(len(scripts), 1)
		e := start(t, s, scripts, nil)
		for rounds := 0; !e.Done(); rounds++ {
			if rounds > 2000 {
				t.Fatal("the scripts are not finished")
			}
			for _, a := range round {
				e.Do(a)
			}
		}
		victims += checkVictims(t, e.History())
		ended := checkOrder(t, e.History(), len(scripts))
		for i, script := range scripts {
			if ended[i] != len(session.Split(script)) {
				t.Fatalf("session %d: %d transactions", i, ended[i])
			}
		}
	}
	if victims < 20 {
		t.Errorf("only %d victims", victims)
	}
}

// TestCrashes tests T9 with crashes.
func TestCrashes(t *testing.T) {
	s := build(t)
	r := rand.New(rand.NewSource(90))
	crashes, doubts := 0, 0
	for seed := range uint64(150) {
		scripts := randomScripts(t, r)
		history, err := engine.Run(sectors, s, scripts, Random(len(scripts), 400, Rates{20, 60}, seed))
		if err != api.OK {
			t.Fatal(err)
		}
		checkVictims(t, history)
		checkOrder(t, history, len(scripts))
		for i, ev := range history {
			if ev.Kind == api.EvCrash {
				crashes++
			}
			if i > 0 && ev.Kind == api.EvCommit && history[i-1].Kind == api.EvRecover {
				doubts++
			}
		}
	}
	if crashes < 200 || doubts < 5 {
		t.Errorf("%d crashes, %d commits in doubt", crashes, doubts)
	}
}
