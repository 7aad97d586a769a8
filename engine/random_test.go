package engine

import (
	"math/rand"
	"reflect"
	"slices"
	"strconv"
	"testing"

	"disjoint/api"
	"disjoint/binder"
	"disjoint/footprint"
	"disjoint/store"
	"disjoint/transaction"
	"disjoint/value"
)

// randomStatement returns a statement on the small tables, which often meets others.
func randomStatement(r *rand.Rand) string {
	n := func(k int) string { return strconv.Itoa(r.Intn(k)) }
	low := []string{"a < 5", "a = " + n(10), "a % 2 = 0", "b < a", "a >= " + n(10) + " AND b < 60", "b = " + n(3)}[r.Intn(6)]
	switch r.Intn(16) {
	case 0, 1, 2:
		return "INSERT INTO t VALUES (" + n(10) + ", " + n(100) + ")"
	case 3:
		return "INSERT INTO t VALUES (" + n(10) + ", 1), (" + n(12) + ", 2)"
	case 4, 5:
		return "UPDATE t SET b = b + " + n(30) + " WHERE " + low
	case 6:
		return "UPDATE t SET a = 9 - a WHERE " + low
	case 7, 8:
		return "DELETE FROM t WHERE " + low
	case 9:
		return "INSERT INTO u VALUES (" + n(10) + ")"
	case 10:
		return "DELETE FROM u WHERE k = " + n(10)
	case 11:
		return "INSERT INTO w VALUES (" + n(10) + "), (" + n(11) + ")"
	case 12:
		return "SELECT t.a, k, b FROM t, u WHERE t.a = u.k AND t.a < " + n(10)
	case 13:
		return "SELECT COUNT(*), MIN(b), SUM(a) FROM t WHERE " + low
	case 14:
		return "SELECT a, b FROM t WHERE " + low
	}
	return "SELECT * FROM w WHERE a = " + n(10)
}

// randomScript returns a script of several transactions.
func randomScript(r *rand.Rand) string {
	text := ""
	for range 1 + r.Intn(4) {
		if r.Intn(3) == 0 {
			text += randomStatement(r) + "; "
			continue
		}
		text += "BEGIN; "
		for range r.Intn(5) {
			extra := []string{"SAVEPOINT s", "ROLLBACK TO s", "RELEASE s", "BEGIN", "SELECT x FROM t", "COMMIT; COMMIT; BEGIN"}
			if r.Intn(6) == 0 {
				text += extra[r.Intn(len(extra))] + "; "
			} else {
				text += randomStatement(r) + "; "
			}
		}
		text += []string{"COMMIT; ", "COMMIT; ", "COMMIT; ", "ROLLBACK; "}[r.Intn(4)]
	}
	return text
}

// randomAction returns mostly steps.
func randomAction(r *rand.Rand, e *Engine, crashes bool) api.Action {
	if e.Down() {
		return recover1
	}
	if crashes {
		switch r.Intn(60) {
		case 0:
			return crash
		case 1, 2:
			return api.Action{Kind: api.ActCrash, Writes: 1 + r.Intn(5), Bytes: r.Intn(66)}
		case 3, 4, 5:
			return checkpoint
		}
	}
	return step(r.Intn(len(e.clients)))
}

// checkLocks checks P51.2.
func checkLocks(t *testing.T, e *Engine) {
	t.Helper()
	if e.Down() {
		return
	}
	waiting := e.locks.Waiting()
	for i, c := range e.clients {
		held := e.locks.Held(c.session.Transaction())
		if c.txn == nil && len(held) > 0 {
			t.Fatalf("session %d holds locks without a transaction", i)
		}
		if c.waits != slices.Contains(waiting, c.session.Transaction()) {
			t.Fatalf("session %d waits: %v; transactions: %v", i, c.waits, waiting)
		}
		if e.locks.Deadlock(c.session.Transaction()) != nil {
			t.Fatalf("session %d: a deadlock", i)
		}
		for j := range i {
			other := e.locks.Held(e.clients[j].session.Transaction())
			if ok, w := footprint.Commute(held, other); !ok {
				t.Fatalf("sessions %d and %d hold conflicting locks: %v", i, j, w)
			}
		}
	}
}

// reference executes committed transactions one after the other.
type reference struct {
	schema  api.Schema
	store   *store.Store
	scripts [][]api.Statement
	// since contains the events of the statements of the open transaction of each session.
	since [][]api.Event
}

func (x *reference) follow(t *testing.T, l []api.Event) {
	t.Helper()
	for _, ev := range l {
		switch ev.Kind {
		case api.EvBegin:
			x.since[ev.Session] = nil
		case api.EvRows, api.EvCount, api.EvDone, api.EvError:
			x.since[ev.Session] = append(x.since[ev.Session], ev)
		case api.EvCommit:
			x.commit(t, ev)
		case api.EvAbort:
			if ev.Errno != api.ErrDeadlock && ev.Errno != api.ErrUnique && ev.Errno != api.ErrForeign {
				t.Fatal(text(ev))
			}
		}
	}
}

func sorted(l []api.Row) []string {
	var s []string
	for _, r := range l {
		s = append(s, value.FormatRow(r))
	}
	slices.Sort(s)
	return s
}

func (x *reference) commit(t *testing.T, ev api.Event) {
	t.Helper()
	y := transaction.Begin(ev.Txn, x.schema, x.store)
	for _, old := range x.since[ev.Session] {
		b, err := binder.Bind(x.schema, x.scripts[old.Session][old.Statement])
		if old.Kind == api.EvError && old.Errno == api.ErrState {
			continue
		}
		var rows []api.Row
		var changes []api.Change
		if err == api.OK {
			rows, changes, err = y.Execute(b)
		}
		if err != old.Errno || len(changes) != old.Count || !slices.Equal(sorted(rows), sorted(old.Rows)) {
			t.Fatalf("%s, but serially %d %d %v", text(old), err, len(changes), rows)
		}
	}
	if err := y.Check(); err != api.OK {
		t.Fatalf("%s: %d", text(ev), err)
	}
	y.Commit()
}

// equal compares the rows of two stores.
func equal(a, b *store.Store) bool {
	for i := range 3 {
		if !a.Bag(i).Equal(b.Bag(i)) {
			return false
		}
	}
	return true
}

func idle(e *Engine) bool {
	return !slices.ContainsFunc(e.clients, func(c *client) bool { return c.txn != nil })
}

// randomRun performs random actions until all scripts have been executed. It returns them, the scripts and the history.
func randomRun(t *testing.T, s api.Schema, seed int64) ([]api.Action, [][]api.Statement, []api.Event) {
	t.Helper()
	r := rand.New(rand.NewSource(seed))
	var words []string
	for range 2 + r.Intn(3) {
		words = append(words, randomScript(r))
	}
	scripts := parse(t, words...)
	e, err := New(formatted(t, s, 200), s, scripts)
	if err != api.OK {
		t.Fatal(err)
	}
	x := &reference{schema: s, store: store.New(s), scripts: scripts, since: make([][]api.Event, len(scripts))}
	var actions []api.Action
	for !e.Done() || e.Down() {
		a := randomAction(r, e, seed%2 == 0)
		actions = append(actions, a)
		ready := e.Ready(a.Session)
		l := e.Do(a)
		if a.Kind == api.ActStep && ready == (len(l) == 0) {
			t.Fatalf("ready: %v, but %d events", ready, len(l))
		}
		x.follow(t, l)
		checkLocks(t, e)
		recovered := len(l) > 0 && l[0].Kind == api.EvRecover
		if !e.Down() && (recovered || idle(e)) && !equal(e.Store(), x.store) {
			t.Fatalf("seed %d: the rows are not those of the committed transactions", seed)
		}
		if len(actions) > 5000 {
			t.Fatal("no end")
		}
	}
	return actions, scripts, e.History()
}

func TestRandom(t *testing.T) {
	s := build(t, tables)
	kinds := map[int]int{}
	errnos := map[api.Errno]int{}
	for seed := range int64(300) {
		actions, scripts, l := randomRun(t, s, 8400+seed)
		for _, ev := range l {
			kinds[ev.Kind]++
			errnos[ev.Errno]++
		}
		again, err := Run(200, s, scripts, actions)
		if err != api.OK || !reflect.DeepEqual(l, again) {
			t.Fatalf("seed %d: the same actions lead to other events", seed)
		}
	}
	for kind := api.EvBegin; kind <= api.EvRecover; kind++ {
		if kinds[kind] == 0 {
			t.Errorf("no event of kind %d", kind)
		}
	}
	for _, err := range []api.Errno{api.ErrNotFound, api.ErrRange, api.ErrCheck, api.ErrUnique, api.ErrForeign, api.ErrState, api.ErrDeadlock} {
		if errnos[err] == 0 {
			t.Errorf("never %d", err)
		}
	}
}
