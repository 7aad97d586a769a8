package verifier

import (
	"disjoint/api"
	"disjoint/session"
)

// known is what is known of the engine after some events that could occur.
type known struct {
	clients []*client
	down    bool
	// recovered is set if the last event was EvRecover.
	recovered bool
}

// client is what is known of a session.
type client struct {
	script  []api.Statement
	parts   [][2]int
	session *session.Session
	open    bool
	waits   bool
	granted bool
	// doubt is the position of the commit that the last crash has interrupted, or -1.
	doubt int
	// outcomes contains the positions of the events of the last attempt of the transaction.
	outcomes []int
	// reasons contains those of the last wait.
	reasons []api.Wait
}

// begin returns what is known before the first event.
func begin(scripts [][]api.Statement) *known {
	k := &known{}
	for i, script := range scripts {
		k.clients = append(k.clients, &client{script: script, parts: session.Split(script), session: session.New(i, script), doubt: -1})
	}
	return k
}

// client returns the session whose current transaction is that of an event, or nil.
func (k *known) client(e api.Event) *client {
	if e.Session < 0 || e.Session >= len(k.clients) {
		return nil
	}
	c := k.clients[e.Session]
	if c.session.Done() || c.session.Transaction() != e.Txn {
		return nil
	}
	return c
}

// statements returns the statements of the current transaction, and the position of the first one.
func (c *client) statements() ([]api.Statement, int) {
	part := c.parts[(c.session.Transaction()-1)/api.MaxSessions]
	return c.script[part[0] : part[1]+1], part[0]
}

// executed returns the statements of the current transaction that were executed.
func (c *client) executed() []api.Statement {
	l, first := c.statements()
	next, more := c.session.Next()
	if !more {
		return l
	}
	return l[:next-first]
}

// explicit reports whether the current transaction begins with BEGIN.
func (c *client) explicit() bool {
	l, _ := c.statements()
	return l[0].Kind == api.StmtBegin
}

// atCommit reports whether the next step of the transaction is its commit.
func (c *client) atCommit() bool {
	st, more := c.session.Statement()
	return !more || st.Kind == api.StmtCommit && c.explicit()
}

// atRollback reports whether the next step of the transaction is its rollback.
func (c *client) atRollback() bool {
	st, more := c.session.Statement()
	return more && st.Kind == api.StmtRollback && c.explicit()
}

// accesses reports whether a statement reads or writes rows.
func accesses(kind int) bool { return kind == api.StmtSelect || changes(kind) }

// changes reports whether a statement writes rows.
func changes(kind int) bool {
	return kind == api.StmtInsert || kind == api.StmtUpdate || kind == api.StmtDelete
}

// shaped reports whether the fields of an event are those of its kind.
func shaped(e api.Event) bool {
	if e.Kind < api.EvBegin || e.Kind > api.EvRecover {
		return false
	}
	if len(e.Waits) > 0 != (e.Kind == api.EvWait) || len(e.Rows) > 0 && e.Kind != api.EvRows {
		return false
	}
	if e.Count < 0 || e.Count > 0 && e.Kind != api.EvCount {
		return false
	}
	if e.Errno != api.OK != (e.Kind == api.EvError || e.Kind == api.EvAbort) {
		return false
	}
	return e.Kind < api.EvCheckpoint || e.Session == 0 && e.Txn == 0 && e.Statement == 0
}

// possible reports whether an event can occur.
func (k *known) possible(e api.Event) bool {
	if !shaped(e) || k.down != (e.Kind == api.EvRecover) {
		return false
	}
	if e.Kind >= api.EvCheckpoint {
		return true
	}
	c := k.client(e)
	if c == nil {
		return false
	}
	if e.Kind == api.EvCommit && k.recovered {
		return c.doubt >= 0 && e.Statement == c.doubt
	}
	position, _ := c.session.Next()
	return e.Statement == position && c.possible(e)
}

// possible reports whether an event can occur at the position of the session.
func (c *client) possible(e api.Event) bool {
	if e.Kind == api.EvBegin || !c.open {
		return e.Kind == api.EvBegin && !c.open
	}
	if e.Kind == api.EvGrant || e.Kind == api.EvAbort && e.Errno == api.ErrDeadlock {
		return c.waits
	}
	if c.waits {
		return false
	}
	st, _ := c.session.Statement()
	switch e.Kind {
	case api.EvWait:
		return !c.granted && (c.atCommit() || accesses(st.Kind))
	case api.EvCommit:
		return c.atCommit()
	case api.EvAbort:
		return c.atCommit() && (e.Errno == api.ErrUnique || e.Errno == api.ErrForeign || e.Errno == api.ErrFull)
	case api.EvRollback:
		return c.atRollback()
	}
	return !c.atCommit() && !c.atRollback() && isOutcome(e.Kind, st.Kind)
}

// isOutcome reports whether an event can be the outcome of a statement.
func isOutcome(event, statement int) bool {
	switch event {
	case api.EvRows:
		return statement == api.StmtSelect
	case api.EvCount:
		return changes(statement)
	case api.EvDone:
		return statement == api.StmtSavepoint || statement == api.StmtRollbackTo || statement == api.StmtRelease
	}
	return event == api.EvError
}

// follow performs the effect of the event number i, which can occur.
func (k *known) follow(i int, e api.Event) {
	k.recovered = e.Kind == api.EvRecover
	switch e.Kind {
	case api.EvCheckpoint:
	case api.EvCrash:
		k.down = true
		for _, c := range k.clients {
			c.crash()
		}
	case api.EvRecover:
		k.down = false
	default:
		k.clients[e.Session].follow(i, e)
	}
}

// crash closes the transaction, and remembers whether its commit was in doubt.
func (c *client) crash() {
	c.doubt = -1
	if c.open && !c.waits && c.atCommit() {
		c.doubt, _ = c.session.Next()
	}
	c.session.Restart()
	c.open, c.waits, c.granted = false, false, false
}

// follow performs the effect of the event number i on its session.
func (c *client) follow(i int, e api.Event) {
	switch e.Kind {
	case api.EvBegin:
		c.open, c.granted, c.outcomes = true, false, nil
		if c.explicit() {
			c.session.Advance()
		}
	case api.EvWait:
		c.waits, c.reasons = true, e.Waits
	case api.EvGrant:
		c.waits, c.granted = false, true
	case api.EvRows, api.EvCount, api.EvDone, api.EvError:
		c.outcomes = append(c.outcomes, i)
		c.session.Advance()
		c.granted = false
	case api.EvAbort:
		c.open, c.waits = false, false
		if e.Errno == api.ErrDeadlock {
			c.session.Restart()
		} else {
			c.session.Finish()
		}
	case api.EvCommit, api.EvRollback:
		c.open = false
		c.session.Finish()
	}
}
