package verifier

import (
	"math/rand"
	"reflect"
	"slices"
	"strconv"
	"testing"

	"disjoint/api"
	"disjoint/bag"
	"disjoint/copies"
	"disjoint/disk"
	"disjoint/engine"
	"disjoint/history"
	"disjoint/recovery"
	"disjoint/schedule"
	"disjoint/serial"
	"disjoint/session"
)

// randomStatement returns a statement that often conflicts with others.
func randomStatement(r *rand.Rand) string {
	n := func(k int) string { return strconv.Itoa(r.Intn(k)) }
	where := []string{"a < 5", "a = " + n(10), "a % 2 = 0", "b < a", "a >= " + n(10) + " AND b < 60", "NOT a = " + n(10)}[r.Intn(6)]
	return []string{
		"INSERT INTO t VALUES (" + n(10) + ", " + n(100) + ")",
		"INSERT INTO t VALUES (" + n(10) + ", 1), (" + n(11) + ", 2)",
		"UPDATE t SET b = b + " + n(30) + " WHERE " + where,
		"UPDATE t SET a = 9 - a WHERE " + where,
		"DELETE FROM t WHERE " + where,
		"INSERT INTO u VALUES (" + n(10) + ", 'x')",
		"UPDATE u SET n = 'xy', k = k - 1 WHERE n LIKE '_' AND k > " + n(10),
		"DELETE FROM u WHERE k = " + n(10),
		"SELECT k, b, n FROM t, u WHERE t.a = u.k AND t.a < " + n(10),
		"SELECT COUNT(*), SUM(b) FROM t WHERE " + where,
		"SELECT n, COUNT(*) FROM u JOIN w ON x > k GROUP BY n",
		"INSERT INTO w VALUES (" + n(11) + ")",
		"DELETE FROM w WHERE x = " + n(10),
		"SELECT a, b FROM t WHERE " + where + " ORDER BY 2",
	}[r.Intn(14)] + "; "
}

// randomTransaction returns a transaction, in which a query can be repeated.
func randomTransaction(r *rand.Rand) string {
	if r.Intn(4) == 0 {
		return randomStatement(r)
	}
	text := "BEGIN; "
	for range r.Intn(4) {
		if r.Intn(5) == 0 {
			text += []string{"SAVEPOINT s; ", "ROLLBACK TO s; ", "RELEASE s; ", "BEGIN; ", "SELECT x FROM t; "}[r.Intn(5)]
		}
		text += randomStatement(r)
	}
	if r.Intn(2) == 0 {
		query := "SELECT * FROM t WHERE a < " + strconv.Itoa(1+r.Intn(10)) + "; "
		text += query + "SELECT COUNT(*) FROM u; " + query
	}
	return text + []string{"COMMIT; ", "COMMIT; ", "COMMIT; ", "ROLLBACK; "}[r.Intn(4)]
}

// randomRun returns scripts, the history of an engine that has executed them, and its rows at the end.
func randomRun(t *testing.T, s api.Schema, r *rand.Rand, rates schedule.Rates) ([][]api.Statement, []api.Event, []*bag.Bag) {
	t.Helper()
	var words []string
	for range 2 + r.Intn(3) {
		text := ""
		for range 1 + r.Intn(3) {
			text += randomTransaction(r)
		}
		words = append(words, text)
	}
	scripts := parse(t, words...)
	d, _ := disk.New(300)
	if err := recovery.Format(d, s); err != api.OK {
		t.Fatal(err)
	}
	e, err := engine.New(d, s, scripts)
	if err != api.OK {
		t.Fatal(err)
	}
	for _, a := range schedule.Random(len(scripts), 250, rates, r.Uint64()) {
		e.Do(a)
	}
	// Then there is neither a crash nor an open transaction.
	e.Do(api.Action{Kind: api.ActRecover})
	e.Do(api.Action{Kind: api.ActCrash})
	e.Do(api.Action{Kind: api.ActRecover})
	var rows []*bag.Bag
	for i := range s {
		rows = append(rows, e.Store().Bag(i))
	}
	return scripts, e.History(), rows
}

// TestEngine tests P55.2, and T7 as a whole.
func TestEngine(t *testing.T) {
	s := build(t)
	r := rand.New(rand.NewSource(92))
	kinds := map[int]int{}
	repeated := 0
	for i := range 250 {
		rates := []schedule.Rates{{}, {Checkpoints: 20, Crashes: 40}}[i%2]
		scripts, l, rows := randomRun(t, s, r, rates)
		if found := Check(s, scripts, l); len(found) > 0 {
			text, _ := history.Format(l)
			t.Fatalf("%s: %s", texts(found), text)
		}
		for _, e := range l {
			kinds[e.Kind]++
		}
		// The rows are those of the serial execution in the order of the commits.
		d := serial.New(s)
		for _, n := range history.Committed(l) {
			script := scripts[(n-1)%api.MaxSessions]
			part := session.Split(script)[(n-1)/api.MaxSessions]
			d.Transaction(script[part[0] : part[1]+1])
		}
		for table := range s {
			if !d.Bag(table).Equal(rows[table]) {
				t.Fatalf("other rows in table %d", table)
			}
		}
		repeated += checkRepeated(t, scripts, l)
	}
	for kind := api.EvBegin; kind <= api.EvRecover; kind++ {
		if kinds[kind] == 0 {
			t.Errorf("no event of kind %d", kind)
		}
	}
	if repeated < 100 {
		t.Errorf("only %d repeated queries", repeated)
	}
}

// checkRepeated checks that a query has the same result as two statements before, if it is the same query and the other one was a query, too.
func checkRepeated(t *testing.T, scripts [][]api.Statement, l []api.Event) int {
	t.Helper()
	var last [api.MaxSessions][]api.Event
	n := 0
	for _, e := range l {
		switch e.Kind {
		case api.EvBegin:
			last[e.Session] = nil
		case api.EvRows, api.EvCount, api.EvDone, api.EvError:
			last[e.Session] = append(last[e.Session], e)
			k := len(last[e.Session])
			if k < 3 || last[e.Session][k-2].Kind != api.EvRows || last[e.Session][k-3].Kind != api.EvRows {
				continue
			}
			first, script := last[e.Session][k-3], scripts[e.Session]
			if !reflect.DeepEqual(script[first.Statement], script[e.Statement]) {
				continue
			}
			n++
			if !slices.EqualFunc(first.Rows, e.Rows, slices.Equal) {
				t.Fatalf("%v, but then %v", first.Rows, e.Rows)
			}
		}
	}
	return n
}

// mutate changes one event of a history, or the order of two, in a random way.
func mutate(r *rand.Rand, l []api.Event) []api.Event {
	l = slices.Clone(l)
	if len(l) == 0 {
		return l
	}
	i := r.Intn(len(l))
	e := &l[i]
	switch r.Intn(9) {
	case 0:
		return slices.Delete(l, i, i+1)
	case 1:
		return slices.Insert(l, i, l[r.Intn(len(l))])
	case 2:
		j := r.Intn(len(l))
		l[i], l[j] = l[j], l[i]
	case 3:
		e.Kind = 1 + r.Intn(13)
	case 4:
		e.Txn += int64(r.Intn(3)-1) * 8
	case 5:
		e.Statement += r.Intn(3) - 1
	case 6:
		e.Count, e.Errno = e.Count+1, e.Errno+1
	case 7:
		e.Rows = append(slices.Clone(e.Rows), api.Row{{}})
	case 8:
		e.Waits = slices.Clone(e.Waits)
		for j := range e.Waits {
			e.Waits[j].Table = r.Intn(3)
			e.Waits[j].Txn += int64(r.Intn(3) - 1)
		}
	}
	return l
}

// TestMutations changes histories: events that cannot occur have no effect on the other violations, and the order of Check is as specified.
func TestMutations(t *testing.T) {
	s := build(t)
	r := rand.New(rand.NewSource(93))
	kinds := map[int]int{}
	for i := range 60 {
		rates := []schedule.Rates{{}, {Checkpoints: 20, Crashes: 40}}[i%2]
		scripts, valid, _ := randomRun(t, s, r, rates)
		for range 15 {
			l := mutate(r, valid)
			for range r.Intn(3) {
				l = mutate(r, l)
			}
			found := Check(s, scripts, l)
			check(t, s, scripts, l, texts(found))
			bad := map[int]bool{}
			for j, v := range found {
				kinds[v.Kind]++
				if j > 0 && (v.At < found[j-1].At || v.At == found[j-1].At && v.Kind <= found[j-1].Kind) {
					t.Fatalf("%s: the order", texts(found))
				}
				if v.Kind == Malformed || v.Kind == LostCommit {
					bad[v.At] = true
				}
			}
			// The other violations have the same events in the history without those that cannot occur.
			var rest []api.Event
			places := map[int]int{}
			for j, e := range l {
				if !bad[j] {
					places[j] = len(rest)
					rest = append(rest, e)
				}
			}
			var want []Violation
			for _, v := range found {
				if !bad[v.At] {
					want = append(want, Violation{v.Kind, places[v.At]})
				}
			}
			if got := Check(s, scripts, rest); !slices.Equal(got, want) {
				t.Fatalf("%s instead of %s", texts(got), texts(want))
			}
		}
	}
	for kind := Malformed; kind <= WrongVictim; kind++ {
		if kinds[kind] == 0 {
			t.Errorf("no violation of kind %d", kind)
		}
	}
}

// The arguments are not changed.
func TestArguments(t *testing.T) {
	s := build(t)
	scripts, l, _ := randomRun(t, s, rand.New(rand.NewSource(94)), schedule.Rates{Crashes: 30})
	before, _ := history.Format(l)
	copied := copies.List(scripts, func(l []api.Statement) []api.Statement { return copies.List(l, copies.Statement) })
	Check(s, scripts, l)
	if after, _ := history.Format(l); after != before || !reflect.DeepEqual(copied, scripts) || !reflect.DeepEqual(s, build(t)) {
		t.Error("an argument has changed")
	}
}
