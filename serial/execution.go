package serial

import (
	"iter"
	"slices"

	"disjoint/aggregate"
	"disjoint/api"
	"disjoint/bag"
	"disjoint/binder"
	"disjoint/constraint"
	"disjoint/evaluate"
	"disjoint/footprint"
	"disjoint/image"
)

// execution is the execution of a transaction.
type execution struct {
	database   *Database
	savepoints []savepoint
}

// savepoint is a state to which the transaction can return.
type savepoint struct {
	name   string
	tables []*bag.Bag
}

// execute executes a statement that neither begins nor ends the transaction.
func (x *execution) execute(st api.Statement) Outcome {
	switch st.Kind {
	case api.StmtSavepoint:
		x.savepoints = slices.DeleteFunc(x.savepoints, func(p savepoint) bool { return p.name == st.Name })
		x.savepoints = append(x.savepoints, savepoint{st.Name, slices.Clone(x.database.tables)})
		return Outcome{}
	case api.StmtRollbackTo, api.StmtRelease:
		return Outcome{Errno: x.leave(st)}
	case api.StmtSelect, api.StmtInsert, api.StmtUpdate, api.StmtDelete:
		return x.database.execute(st)
	}
	return Outcome{Errno: api.ErrState}
}

// leave executes ROLLBACK TO or RELEASE.
func (x *execution) leave(st api.Statement) api.Errno {
	i := slices.IndexFunc(x.savepoints, func(p savepoint) bool { return p.name == st.Name })
	if i < 0 {
		return api.ErrNotFound
	}
	if st.Kind == api.StmtRelease {
		x.savepoints = x.savepoints[:i]
		return api.OK
	}
	x.savepoints = x.savepoints[:i+1]
	x.database.tables = slices.Clone(x.savepoints[i].tables)
	return api.OK
}

// execute executes a statement that reads or writes rows.
func (d *Database) execute(st api.Statement) Outcome {
	b, err := binder.Bind(d.schema, st)
	if err != api.OK {
		return Outcome{Errno: err}
	}
	if _, err := footprint.Statement(d.schema, b); err != api.OK {
		return Outcome{Errno: err}
	}
	if st.Kind == api.StmtSelect {
		return Outcome{Rows: aggregate.Result(b, d.combinations(b))}
	}
	old, changed := d.changes(b)
	if err := worst(d.schema[b.Table], changed); err != api.OK {
		return Outcome{Errno: err}
	}
	rows := d.tables[b.Table].Minus(bag.New(old...))
	for _, r := range changed {
		rows.Add(r)
	}
	d.tables[b.Table] = rows
	return Outcome{Count: max(len(old), len(changed))}
}

// changes returns the rows that a statement removes, and those that it adds.
func (d *Database) changes(b api.Bound) (old, changed []api.Row) {
	if b.Statement.Kind == api.StmtInsert {
		return nil, b.Rows
	}
	for r := range d.combinations(b) {
		old = append(old, r)
		if b.Statement.Kind == api.StmtUpdate {
			// A row has a value for each column, so that there is no error.
			assigned, _ := image.Assign(d.schema[b.Table], b.Statement.Sets, r)
			changed = append(changed, assigned)
		}
	}
	return old, changed
}

// worst returns the least error of rows that are not possible.
func worst(t api.Table, l []api.Row) api.Errno {
	least := api.OK
	for _, r := range l {
		if err := constraint.Row(t, r); err != api.OK && (least == api.OK || err < least) {
			least = err
		}
	}
	return least
}

// combinations yields the combinations of rows of the tables of a statement for which its condition is True.
func (d *Database) combinations(b api.Bound) iter.Seq[api.Row] {
	var tables [][]api.Row
	for _, t := range b.Tables {
		tables = append(tables, d.tables[t].Rows())
	}
	return func(yield func(api.Row) bool) {
		product(nil, tables, func(r api.Row) bool {
			return !evaluate.Matches(b.Statement.Where, r) || yield(r)
		})
	}
}

// product yields each combination of rows of some tables behind a first row, until yield returns false.
func product(first api.Row, tables [][]api.Row, yield func(api.Row) bool) bool {
	if len(tables) == 0 {
		return yield(first)
	}
	for _, r := range tables[0] {
		if !product(slices.Concat(first, r), tables[1:], yield) {
			return false
		}
	}
	return true
}
