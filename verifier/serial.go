package verifier

import (
	"slices"

	"disjoint/api"
	"disjoint/serial"
)

// Serial returns the violations of kind NotSerial.
func Serial(s api.Schema, scripts [][]api.Statement, l []api.Event) []Violation {
	var found []Violation
	k := begin(scripts)
	d := serial.New(s)
	for i, e := range l {
		if !k.possible(e) {
			continue
		}
		if e.Kind == api.EvCommit {
			if at := k.clients[e.Session].disagreement(d, l, i); at >= 0 {
				found = append(found, Violation{NotSerial, at})
			}
		}
		k.follow(i, e)
	}
	return ordered(found)
}

// disagreement executes the transaction whose commit is the event number i. It returns the first event that does not agree, or -1.
func (c *client) disagreement(d *serial.Database, l []api.Event, i int) int {
	statements, first := c.statements()
	outcomes, committed := d.Transaction(statements)
	for _, at := range c.outcomes {
		n := l[at].Statement - first
		if !agrees(l[at], statements[n].Kind, outcomes[n]) {
			return at
		}
	}
	if !committed {
		return i
	}
	return -1
}

// agrees reports whether an event has the outcome of a statement.
func agrees(e api.Event, statement int, o serial.Outcome) bool {
	switch {
	case o.Errno != api.OK:
		return e.Kind == api.EvError && e.Errno == o.Errno
	case statement == api.StmtSelect:
		return e.Kind == api.EvRows && slices.EqualFunc(e.Rows, o.Rows, slices.Equal)
	case changes(statement):
		return e.Kind == api.EvCount && e.Count == o.Count
	}
	return e.Kind == api.EvDone
}
