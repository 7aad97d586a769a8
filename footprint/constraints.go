package footprint

import (
	"slices"

	"disjoint/api"
	"disjoint/schema"
)

// keyValue returns the values of a row in some columns, or nil if the key value is missing.
func keyValue(r api.Row, columns []int) api.Row {
	if len(r) == 0 {
		return nil
	}
	var k api.Row
	for _, c := range columns {
		if r[c].Kind == api.Null {
			return nil
		}
		k = append(k, r[c])
	}
	return k
}

// Constraints returns accesses that read the rows on which the keys and foreign keys of changed rows depend.
func Constraints(s api.Schema, l []api.Change) []api.Access {
	var a []api.Access
	for _, c := range l {
		t := s[c.Table]
		for _, columns := range t.Keys {
			if k, given := gives(c.Old, c.New, columns); given {
				a = append(a, readKey(s, c.Table, columns, k))
			}
		}
		for _, f := range t.Foreign {
			if k, given := gives(c.Old, c.New, f.Columns); given {
				a = append(a, readKey(s, f.Table, s[f.Table].Keys[f.Key], k))
			}
		}
		for key, columns := range t.Keys {
			k, taken := gives(c.New, c.Old, columns)
			referring := referring(s, c.Table, key)
			if !taken || len(referring) == 0 {
				continue
			}
			a = append(a, readKey(s, c.Table, columns, k))
			for _, x := range referring {
				a = append(a, readKey(s, x[0], s[x[0]].Foreign[x[1]].Columns, k))
			}
		}
	}
	return a
}

// gives returns the key value of the second row, and whether it is not missing and differs from that of the first one.
func gives(first, second api.Row, columns []int) (api.Row, bool) {
	k := keyValue(second, columns)
	return k, k != nil && !slices.Equal(k, keyValue(first, columns))
}

// referring returns the foreign keys that refer to a key, each as the numbers of its table and its position.
func referring(s api.Schema, table, key int) [][2]int {
	return slices.DeleteFunc(schema.Referring(s, table), func(x [2]int) bool {
		return s[x[0]].Foreign[x[1]].Key != key
	})
}

// readKey returns an access that reads the rows of a table with a key value in some columns.
func readKey(s api.Schema, table int, columns []int, k api.Row) api.Access {
	var c api.Clause
	for i, v := range columns {
		c.NotNull = append(c.NotNull, v)
		if k[i].Kind == api.Text {
			c.Tests = append(c.Tests, api.Test{Var: v, Kind: api.TestEqual, Text: k[i].Text})
		} else {
			f := api.Linear{Const: -k[i].Int, Coefs: []api.Coef{{Var: v, N: 1}}}
			c.Ints = append(c.Ints, api.Constraint{Linear: f, Equal: true})
		}
	}
	slices.Sort(c.NotNull)
	variables := schema.Variables(s[table])
	p := api.Predicate{Table: table, Columns: len(variables), Variables: variables, Clauses: []api.Clause{c}}
	return api.Access{Predicate: p}
}
