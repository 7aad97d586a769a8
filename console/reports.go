package console

import (
	"slices"
	"strings"

	"disjoint/api"
	"disjoint/binder"
	"disjoint/footprint"
	"disjoint/history"
	"disjoint/parser"
	"disjoint/plan"
	"disjoint/planner"
	"disjoint/schema"
	"disjoint/value"
	"disjoint/verifier"
)

// text returns the text of events.
func text(l []api.Event) string {
	// The events of an engine can be formatted; the text is empty otherwise.
	s, _ := history.Format(l)
	return s
}

// history shows all events.
func (c *Console) history(arguments) (string, api.Errno) {
	return text(c.engine.History()), api.OK
}

// verify shows the violations of the history.
func (c *Console) verify(arguments) (string, api.Errno) {
	return report(verifier.Check(c.schema, c.scripts, c.engine.History())), api.OK
}

// report returns the lines of violations.
func report(l []verifier.Violation) string {
	if len(l) == 0 {
		return "ok\n"
	}
	var b strings.Builder
	for _, v := range l {
		b.WriteString(verifier.Format(v) + "\n")
	}
	return b.String()
}

// explain shows the reasons of all waits.
func (c *Console) explain(arguments) (string, api.Errno) {
	var b strings.Builder
	for _, e := range c.engine.History() {
		for _, sentence := range history.Explain(c.schema, e) {
			b.WriteString(sentence + "\n")
		}
	}
	return b.String(), api.OK
}

// rows shows the rows of a table.
func (c *Console) rows(a arguments) (string, api.Errno) {
	table, found := schema.Find(c.schema, a.text)
	if !found {
		return "", api.ErrNotFound
	}
	if c.engine.Down() {
		return "", api.ErrCrash
	}
	var b strings.Builder
	for _, r := range c.engine.Store().Bag(table).Rows() {
		b.WriteString(value.FormatRow(r) + "\n")
	}
	return b.String(), api.OK
}

// done shows whether all scripts have been executed.
func (c *Console) done(arguments) (string, api.Errno) {
	if c.engine.Done() {
		return "yes\n", api.OK
	}
	return "no\n", api.OK
}

// conflict shows whether two statements conflict.
func (c *Console) conflict(a arguments) (string, api.Errno) {
	l, err := statements(a.text, 2, api.StmtSelect, api.StmtInsert, api.StmtUpdate, api.StmtDelete)
	if err != api.OK {
		return "", err
	}
	var footprints [][]api.Access
	for _, st := range l {
		b, err := binder.Bind(c.schema, st)
		if err != api.OK {
			return "", err
		}
		accesses, err := footprint.Statement(c.schema, b)
		if err != api.OK {
			return "", err
		}
		footprints = append(footprints, accesses)
	}
	commute, w := footprint.Commute(footprints[0], footprints[1])
	if commute {
		return "no conflict\n", api.OK
	}
	return "conflict: row " + value.FormatRow(w.Row) + " of " + c.schema[w.Table].Name + "\n", api.OK
}

// plan shows how the rows of a statement are found.
func (c *Console) plan(a arguments) (string, api.Errno) {
	l, err := statements(a.text, 1, api.StmtSelect, api.StmtUpdate, api.StmtDelete)
	if err != api.OK {
		return "", err
	}
	b, err := binder.Bind(c.schema, l[0])
	if err != api.OK {
		return "", err
	}
	counts := make([]int, len(b.Tables))
	if c.engine != nil && !c.engine.Down() {
		st := c.engine.Store()
		for i, t := range b.Tables {
			counts[i] = st.Table(t).Len()
		}
	}
	return plan.Format(c.schema, b, planner.Choose(c.schema, b, counts)) + "\n", api.OK
}

// statements returns the statements of a script, of which there must be n, all of some kinds.
func statements(text string, n int, kinds ...int) ([]api.Statement, api.Errno) {
	l, _, err := parser.Script(text)
	if err != api.OK {
		return nil, err
	}
	if len(l) != n {
		return nil, api.ErrInvalid
	}
	for _, st := range l {
		if !slices.Contains(kinds, st.Kind) {
			return nil, api.ErrInvalid
		}
	}
	return l, api.OK
}
