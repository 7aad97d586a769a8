package engine

import (
	"disjoint/api"
	"disjoint/binder"
	"disjoint/footprint"
	"disjoint/lockmanager"
	"disjoint/transaction"
)

// step performs the next step of a session.
func (e *Engine) step(number int) {
	if !e.Ready(number) {
		return
	}
	c := e.clients[number]
	if c.txn == nil {
		e.begin(c)
		if c.explicit {
			c.session.Advance()
			return
		}
	}
	st, more := c.session.Statement()
	switch {
	case !more || c.explicit && st.Kind == api.StmtCommit:
		e.commit(c)
	case c.explicit && st.Kind == api.StmtRollback:
		c.txn.Rollback()
		e.end(c, api.Event{Kind: api.EvRollback})
	default:
		e.execute(c, st)
	}
}

// begin opens a transaction.
func (e *Engine) begin(c *client) {
	st, _ := c.session.Statement()
	c.explicit = st.Kind == api.StmtBegin
	c.txn = transaction.Begin(c.session.Transaction(), e.schema, e.store)
	e.report(c, api.Event{Kind: api.EvBegin})
}

// end records the event of the end of a transaction, and leaves it.
func (e *Engine) end(c *client, ev api.Event) {
	e.report(c, ev)
	e.close(c)
	c.session.Finish()
}

// close releases the locks of a transaction that has ended.
func (e *Engine) close(c *client) {
	c.txn, c.waits = nil, false
	e.grant(e.locks.Release(c.session.Transaction()))
}

// grant lets the sessions of transactions whose requests were granted continue.
func (e *Engine) grant(l []int64) {
	for _, n := range l {
		c := e.owner(n)
		c.waits, c.granted = false, true
		e.report(c, api.Event{Kind: api.EvGrant})
	}
}

// owner returns the session of a transaction: see layer 50 for the numbers.
func (e *Engine) owner(txn int64) *client { return e.clients[(txn-1)%api.MaxSessions] }

// executed records the event of a statement, and continues with the next one.
func (e *Engine) executed(c *client, ev api.Event) {
	e.report(c, ev)
	c.session.Advance()
}

// outcome returns ev, or the event of an error.
func outcome(ev api.Event, err api.Errno) api.Event {
	if err != api.OK {
		return api.Event{Kind: api.EvError, Errno: err}
	}
	return ev
}

// execute executes a statement that does not end the transaction.
func (e *Engine) execute(c *client, st api.Statement) {
	switch st.Kind {
	case api.StmtCreate, api.StmtBegin, api.StmtCommit, api.StmtRollback:
		e.executed(c, outcome(api.Event{}, api.ErrState))
		return
	}
	b, err := binder.Bind(e.schema, st)
	if err != api.OK {
		e.executed(c, outcome(api.Event{}, err))
		return
	}
	switch st.Kind {
	case api.StmtSavepoint, api.StmtRollbackTo, api.StmtRelease:
		_, _, err = c.txn.Execute(b)
		e.executed(c, outcome(api.Event{Kind: api.EvDone}, err))
	default:
		e.access(c, b)
	}
}

// access executes a statement that reads or writes rows, when its locks are granted.
func (e *Engine) access(c *client, b api.Bound) {
	l, err := footprint.Statement(e.schema, b)
	if err != api.OK {
		e.executed(c, outcome(api.Event{}, err))
		return
	}
	if !e.lock(c, l) {
		return
	}
	rows, changes, err := c.txn.Execute(b)
	ev := api.Event{Kind: api.EvCount, Count: len(changes)}
	if b.Statement.Kind == api.StmtSelect {
		ev = api.Event{Kind: api.EvRows, Rows: rows}
	}
	e.report(c, outcome(ev, err))
	// The footprint is not too large, so that the accesses after the execution are not, either.
	after, _ := footprint.After(e.schema, b, changes)
	granted, _ := e.locks.Reduce(c.session.Transaction(), after)
	e.grant(granted)
	c.session.Advance()
}

// lock requests locks unless they were granted before, and reports whether the session has them. Otherwise it waits.
func (e *Engine) lock(c *client, l []api.Access) bool {
	if c.granted {
		c.granted = false
		return true
	}
	ok, waits, _ := e.locks.Request(c.session.Transaction(), l)
	if ok {
		return true
	}
	e.report(c, api.Event{Kind: api.EvWait, Waits: waits})
	c.waits = true
	e.resolve(c)
	return false
}

// resolve rolls transactions back until the transaction of a session does not take part in a deadlock.
func (e *Engine) resolve(c *client) {
	for {
		cycle := e.locks.Deadlock(c.session.Transaction())
		if len(cycle) == 0 {
			return
		}
		v := e.owner(lockmanager.Victim(cycle))
		v.txn.Rollback()
		e.report(v, api.Event{Kind: api.EvAbort, Errno: api.ErrDeadlock})
		e.close(v)
		v.session.Restart()
	}
}

// commit commits a transaction when the locks of its constraints are granted, and rolls it back if they are violated.
func (e *Engine) commit(c *client) {
	net := c.txn.Net()
	if !e.lock(c, footprint.Constraints(e.schema, net)) {
		return
	}
	if err := c.txn.Check(); err != api.OK {
		e.abort(c, err)
		return
	}
	switch e.persist(c, net) {
	case api.OK:
		c.txn.Commit()
		e.end(c, api.Event{Kind: api.EvCommit})
	case api.ErrCrash:
		c.doubt = true
		e.crash()
	default:
		e.abort(c, api.ErrFull)
	}
}

// persist makes the changes of a transaction durable, if need be after a checkpoint that makes space in the log.
func (e *Engine) persist(c *client, net []api.Change) api.Errno {
	err := e.database.Commit(c.number, c.session.Transaction(), net)
	if err != api.ErrFull {
		return err
	}
	if err := e.checkpoint(); err != api.OK {
		return err
	}
	return e.database.Commit(c.number, c.session.Transaction(), net)
}

// abort rolls a transaction back that cannot be committed.
func (e *Engine) abort(c *client, err api.Errno) {
	c.txn.Rollback()
	e.end(c, api.Event{Kind: api.EvAbort, Errno: err})
}
