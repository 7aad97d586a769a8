package tablestore

import (
	"cmp"
	"iter"
	"slices"

	"disjoint/api"
	"disjoint/rowcodec"
	"disjoint/value"
)

// entries is an iterator over entries.
type entries = iter.Seq[entry]

// copied iterates over the numbers and copies of the rows of entries that are wanted.
func copied(l entries, wanted func(api.Row) bool) iter.Seq2[int64, api.Row] {
	return func(yield func(int64, api.Row) bool) {
		for e := range l {
			if wanted(e.row) && !yield(e.id, slices.Clone(e.row)) {
				return
			}
		}
	}
}

func all(api.Row) bool { return true }

// none is an iterator over no rows.
func none(func(int64, api.Row) bool) {}

// scan iterates over all entries in ascending order of their numbers.
func (s *Store) scan() entries {
	return func(yield func(entry) bool) {
		for _, e := range s.rows.All() {
			if !yield(e) {
				return
			}
		}
	}
}

// All iterates over all rows in ascending order of their numbers.
func (s *Store) All() iter.Seq2[int64, api.Row] {
	return copied(s.scan(), all)
}

// Lookup iterates over the rows that have some values in some columns, in ascending order of their numbers.
func (s *Store) Lookup(columns []int, values api.Row) iter.Seq2[int64, api.Row] {
	columns, values = slices.Clone(columns), slices.Clone(values)
	if len(columns) == 0 || len(columns) != len(values) || !s.all(columns) || slices.ContainsFunc(values, isNull) {
		return none
	}
	wanted := func(r api.Row) bool {
		for i, c := range columns {
			if value.Compare(r[c], values[i]) != 0 {
				return false
			}
		}
		return true
	}
	for _, x := range s.indexes {
		var key api.Row
		for _, c := range x.columns {
			if i := slices.Index(columns, c); i >= 0 {
				key = append(key, values[i])
			}
		}
		if len(key) == len(x.columns) {
			return copied(x.with(string(rowcodec.EncodeRow(key))), wanted)
		}
	}
	return copied(s.scan(), wanted)
}

func isNull(v api.Value) bool { return v.Kind == api.Null }

// all reports whether all columns exist.
func (s *Store) all(columns []int) bool {
	return !slices.ContainsFunc(columns, func(c int) bool { return !s.hasColumn(c) })
}

// with iterates over the entries whose keys begin with a prefix.
func (x index) with(prefix string) entries {
	end, _ := rowcodec.End(prefix)
	return func(yield func(entry) bool) {
		for _, e := range x.tree.Between(prefix, end) {
			if !yield(e) {
				return
			}
		}
	}
}

// Range iterates over the rows whose value in a column lies between two bounds, in ascending order of the values and numbers.
func (s *Store) Range(column int, low, high api.Value) iter.Seq2[int64, api.Row] {
	if !s.hasColumn(column) {
		return none
	}
	wanted := func(r api.Row) bool {
		v := r[column]
		return !isNull(v) && (isNull(low) || value.Compare(v, low) >= 0) && (isNull(high) || value.Compare(v, high) <= 0)
	}
	for _, x := range s.indexes {
		if slices.Equal(x.columns, []int{column}) && value.Valid(low) && value.Valid(high) {
			return copied(x.between(low, high), wanted)
		}
	}
	return func(yield func(int64, api.Row) bool) {
		var l []entry
		for e := range s.scan() {
			if wanted(e.row) {
				l = append(l, e)
			}
		}
		// Entries with equal values remain in the order of their numbers.
		slices.SortStableFunc(l, func(a, b entry) int { return value.Compare(a.row[column], b.row[column]) })
		for _, e := range l {
			if !yield(e.id, slices.Clone(e.row)) {
				return
			}
		}
	}
}

// between iterates over the entries of an index of one column whose values lie between two bounds, in their order; NULL stands for no bound.
func (x index) between(low, high api.Value) entries {
	first := string(rowcodec.Encode(low))
	last, _ := rowcodec.End(string(rowcodec.Encode(high)))
	return func(yield func(entry) bool) {
		for k, e := range x.tree.From(first) {
			if !isNull(high) && cmp.Compare(k, last) >= 0 || !yield(e) {
				return
			}
		}
	}
}
