package verifier

import (
	"slices"

	"disjoint/api"
	"disjoint/binder"
	"disjoint/footprint"
	"disjoint/predicate"
	"disjoint/store"
	"disjoint/transaction"
	"disjoint/waitgraph"
)

// Waits returns the violations of kinds Unjustified and WrongVictim.
func Waits(s api.Schema, scripts [][]api.Statement, l []api.Event) []Violation {
	var found []Violation
	k := begin(scripts)
	w := &waits{schema: s, committed: store.New(s), footprints: make([]map[int][]api.Access, len(scripts))}
	for i, e := range l {
		if !k.possible(e) {
			continue
		}
		switch {
		case e.Kind == api.EvCommit:
			w.commit(k.clients[e.Session])
		case e.Kind == api.EvWait && !w.justified(k, e):
			found = append(found, Violation{Unjustified, i})
		case e.Kind == api.EvAbort && e.Errno == api.ErrDeadlock && !k.youngest(e.Txn):
			found = append(found, Violation{WrongVictim, i})
		}
		k.follow(i, e)
	}
	return found
}

// waits is what is needed to examine the reasons of waits.
type waits struct {
	schema    api.Schema
	committed *store.Store
	// footprints contains, for each session, the accesses of its statements that were needed so far.
	footprints []map[int][]api.Access
}

// execute executes statements in a transaction on the committed store.
func (w *waits) execute(l []api.Statement) *transaction.Transaction {
	t := transaction.Begin(0, w.schema, w.committed)
	for _, statement := range l {
		if b, err := binder.Bind(w.schema, statement); err == api.OK {
			// Other statements, and those that fail, have no effect.
			t.Execute(b)
		}
	}
	return t
}

// commit executes the transaction of a session on the committed store.
func (w *waits) commit(c *client) {
	l, _ := c.statements()
	t := w.execute(l)
	if _, err := t.Commit(); err != api.OK {
		t.Rollback()
	}
}

// statement returns the accesses of a statement of a session.
func (w *waits) statement(number int, c *client, position int) []api.Access {
	if l, found := w.footprints[number][position]; found {
		return l
	}
	var l []api.Access
	st := c.script[position]
	if accesses(st.Kind) {
		if b, err := binder.Bind(w.schema, st); err == api.OK {
			l, _ = footprint.Statement(w.schema, b)
		}
	}
	if w.footprints[number] == nil {
		w.footprints[number] = map[int][]api.Access{}
	}
	w.footprints[number][position] = l
	return l
}

// request returns the accesses that the next step of a session needs.
func (w *waits) request(number int, c *client) []api.Access {
	if c.atCommit() {
		// The attempt is rolled back, so that no copy of the store is needed.
		attempt := w.execute(c.executed())
		defer attempt.Rollback()
		return footprint.Constraints(w.schema, attempt.Net())
	}
	position, _ := c.session.Next()
	return w.statement(number, c, position)
}

// all returns the accesses of the executed statements of a session, and those of its next step.
func (w *waits) all(number int, c *client) []api.Access {
	l := slices.Clone(w.request(number, c))
	_, first := c.statements()
	for i := range c.executed() {
		l = append(l, w.statement(number, c, first+i)...)
	}
	return l
}

// justified reports whether all reasons of a wait are justified.
func (w *waits) justified(k *known, e api.Event) bool {
	request := w.request(e.Session, k.clients[e.Session])
	others := make([][]api.Access, len(k.clients))
	for _, reason := range e.Waits {
		number := k.owner(reason.Txn)
		if number < 0 || number == e.Session {
			return false
		}
		if others[number] == nil {
			others[number] = w.all(number, k.clients[number])
		}
		if !meet(request, others[number], reason) {
			return false
		}
	}
	return true
}

// owner returns the session whose open transaction has a number, or -1.
func (k *known) owner(txn int64) int {
	return slices.IndexFunc(k.clients, func(c *client) bool { return c.open && c.session.Transaction() == txn })
}

// meet reports whether the row of a reason belongs to an access of each list, one of which writes.
func meet(a, b []api.Access, reason api.Wait) bool {
	some, writes := contains(a, reason)
	if !some {
		return false
	}
	other, otherWrites := contains(b, reason)
	return writes && other || otherWrites
}

// contains reports whether the row of a reason belongs to an access, and whether it belongs to one that writes.
func contains(l []api.Access, reason api.Wait) (some, writes bool) {
	for _, a := range l {
		if a.Predicate.Table == reason.Table && predicate.Matches(a.Predicate, reason.Row) {
			some, writes = true, writes || a.Write
		}
	}
	return some, writes
}

// youngest reports whether a transaction is the greatest one on a cycle of waits.
func (k *known) youngest(txn int64) bool {
	g := waitgraph.New[int64]()
	for _, c := range k.clients {
		from := c.session.Transaction()
		if !c.waits || from > txn {
			continue
		}
		for _, reason := range c.reasons {
			if reason.Txn <= txn {
				g.Add(from, reason.Txn)
			}
		}
	}
	return g.Reaches(txn, txn)
}
