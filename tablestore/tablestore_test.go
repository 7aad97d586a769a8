package tablestore

import (
	"iter"
	"maps"
	"math"
	"math/rand"
	"slices"
	"testing"

	"disjoint/api"
	"disjoint/value"
)

var null = api.Value{}

// tables have the same columns, but different keys and foreign keys, some of which do not exist.
func tables() []api.Table {
	columns := make([]api.Column, 3)
	return []api.Table{
		{Columns: columns},
		{Columns: columns, Keys: [][]int{{0}, {1, 0}, {2}}},
		{Columns: columns, Keys: [][]int{{1}}, Foreign: []api.Foreign{{Columns: []int{2, 1, 0}}, {Columns: []int{1}}, {Columns: []int{0}}}},
		{Columns: columns, Keys: [][]int{{7}, {-1, 0}, {}, {0, 0}}, Foreign: []api.Foreign{{Columns: []int{2, 99}}}},
	}
}

// pair is a row with its number.
type pair struct {
	id  int64
	row api.Row
}

func collect(s iter.Seq2[int64, api.Row]) []pair {
	var l []pair
	for id, r := range s {
		l = append(l, pair{id, r})
	}
	return l
}

func equal(a, b []pair) bool {
	return slices.EqualFunc(a, b, func(x, y pair) bool { return x.id == y.id && value.CompareRows(x.row, y.row) == 0 })
}

// naive is a store as a map.
type naive map[int64]api.Row

func (m naive) all(wanted func(api.Row) bool) []pair {
	var l []pair
	for _, id := range slices.Sorted(maps.Keys(m)) {
		if wanted(m[id]) {
			l = append(l, pair{id, m[id]})
		}
	}
	return l
}

func (m naive) lookup(columns []int, values api.Row) []pair {
	if len(columns) == 0 || len(columns) != len(values) {
		return nil
	}
	return m.all(func(r api.Row) bool {
		for i, c := range columns {
			if c < 0 || c > 2 || values[i].Kind == api.Null || value.Compare(r[c], values[i]) != 0 {
				return false
			}
		}
		return true
	})
}

func (m naive) between(column int, low, high api.Value) []pair {
	if column < 0 || column > 2 {
		return nil
	}
	l := m.all(func(r api.Row) bool {
		v := r[column]
		return v.Kind != api.Null && (low.Kind == api.Null || value.Compare(v, low) >= 0) && (high.Kind == api.Null || value.Compare(v, high) <= 0)
	})
	slices.SortStableFunc(l, func(a, b pair) int { return value.Compare(a.row[column], b.row[column]) })
	return l
}

var some = []api.Value{null, value.Int(-1), value.Int(0), value.Int(1), value.Int(300), value.Int(math.MinInt64), value.Int(math.MaxInt64), value.Text(""), value.Text("a"), value.Text("ab"), value.Text("b"), value.Text("~")}

var strange = []api.Value{{Int: 3}, {Kind: 1, Text: "x"}, {Kind: 2, Int: 1, Text: "a"}, {Kind: 3}, {Kind: -1}, value.Text("\x00\xff"), value.Text("seventeen letters")}

func randomRow(r *rand.Rand) api.Row {
	row := make(api.Row, 3)
	for i := range row {
		row[i] = some[r.Intn(len(some))]
	}
	return row
}

func TestRandom(t *testing.T) {
	for k, table := range tables() {
		r := rand.New(rand.NewSource(71))
		s, m := New(table), naive{}
		next := int64(1)
		for range 1200 {
			row := randomRow(r)
			id := 1 + r.Int63n(60)
			switch r.Intn(5) {
			case 0:
				if got := s.Insert(row); got != next {
					t.Fatalf("Insert = %d, want %d", got, next)
				}
				m[next] = row
				next++
			case 1, 2:
				if e := s.Put(id, row); e != api.OK {
					t.Fatalf("Put: %d", e)
				}
				m[id] = row
				next = max(next, id+1)
			default:
				got, ok := s.Delete(id)
				if want, has := m[id]; ok != has || value.CompareRows(got, want) != 0 {
					t.Fatalf("Delete(%d) = %v, %v", id, got, ok)
				}
				delete(m, id)
			}
			if s.Len() != len(m) || s.Next() != next {
				t.Fatalf("table %d: Len() = %d, Next() = %d", k, s.Len(), s.Next())
			}
			got, ok := s.Get(id)
			if want, has := m[id]; ok != has || value.CompareRows(got, want) != 0 || !ok && got != nil {
				t.Fatalf("Get(%d) = %v, %v", id, got, ok)
			}
			checkQueries(t, s, m, r)
		}
	}
}

func checkQueries(t *testing.T, s *Store, m naive, r *rand.Rand) {
	t.Helper()
	if got := collect(s.All()); !equal(got, m.all(func(api.Row) bool { return true })) {
		t.Fatalf("All = %v", got)
	}
	var columns []int
	var values api.Row
	pool := some
	if r.Intn(5) == 0 {
		pool = append(slices.Clone(some), strange...)
	}
	for range r.Intn(4) {
		columns = append(columns, r.Intn(5)-r.Intn(2))
		values = append(values, pool[r.Intn(len(pool))])
	}
	if got, want := collect(s.Lookup(columns, values)), m.lookup(columns, values); !equal(got, want) {
		t.Fatalf("Lookup(%v, %v) = %v, want %v", columns, values, got, want)
	}
	c, low, high := r.Intn(5)-1, pool[r.Intn(len(pool))], pool[r.Intn(len(pool))]
	if got, want := collect(s.Range(c, low, high)), m.between(c, low, high); !equal(got, want) {
		t.Fatalf("Range(%d, %v, %v) = %v, want %v", c, low, high, got, want)
	}
}

func TestLookupArguments(t *testing.T) {
	s := New(tables()[1])
	s.Insert(api.Row{value.Int(1), null, value.Text("a")})
	for i, c := range []struct {
		columns []int
		values  api.Row
		want    int
	}{{[]int{0}, api.Row{value.Int(1)}, 1}, {[]int{0, 2}, api.Row{value.Int(1), value.Text("a")}, 1}, {[]int{0, 0}, api.Row{value.Int(1), value.Int(1)}, 1}, {[]int{0, 0}, api.Row{value.Int(1), value.Int(2)}, 0}, {nil, nil, 0}, {[]int{0}, nil, 0}, {nil, api.Row{value.Int(1)}, 0}, {[]int{0, 1}, api.Row{value.Int(1)}, 0}, {[]int{1}, api.Row{null}, 0}, {[]int{3}, api.Row{value.Int(1)}, 0}, {[]int{-1}, api.Row{value.Int(1)}, 0}, {[]int{0, 3}, api.Row{value.Int(1), value.Int(1)}, 0}} {
		if got := collect(s.Lookup(c.columns, c.values)); len(got) != c.want {
			t.Errorf("case %d: %v", i, got)
		}
	}
}

func TestNumbers(t *testing.T) {
	const top = int64(1) << 62
	s := New(tables()[0])
	row := api.Row{null, null, null}
	for _, id := range []int64{0, -1, top + 1, math.MaxInt64, math.MinInt64} {
		if e := s.Put(id, row); e != api.ErrInvalid {
			t.Errorf("Put(%d) = %d", id, e)
		}
	}
	for i, r := range []api.Row{nil, {null}, {null, null}, {null, null, null, null}, {null, null, {Int: 1}}, {null, value.Text("\n"), null}, {value.Text("seventeen letters"), null, null}} {
		if s.Insert(r) != 0 || s.Put(1, r) != api.ErrInvalid {
			t.Errorf("row %d is stored", i)
		}
	}
	if s.Len() != 0 || s.Next() != 1 {
		t.Errorf("Len() = %d, Next() = %d", s.Len(), s.Next())
	}
	if s.Put(top-1, row) != api.OK || s.Next() != top || s.Insert(row) != top || s.Next() != top+1 || s.Insert(row) != 0 || s.Len() != 2 || s.Put(top, row) != api.OK || s.Put(5, row) != api.OK || s.Next() != top+1 {
		t.Errorf("Next() = %d", s.Next())
	}
	if _, ok := s.Delete(top); !ok || s.Next() != top+1 || s.Insert(row) != 0 {
		t.Error("Delete changes the next number")
	}
}

func TestExample(t *testing.T) {
	for _, table := range []api.Table{{Columns: make([]api.Column, 2)}, {Columns: make([]api.Column, 2), Keys: [][]int{{0}, {1}}}} {
		s := New(table)
		s.Insert(api.Row{value.Int(1), value.Text("a")})
		s.Insert(api.Row{value.Int(2), value.Text("b")})
		s.Delete(1)
		if s.Next() != 3 || s.Put(7, api.Row{value.Int(2), value.Text("c")}) != api.OK || s.Next() != 8 {
			t.Errorf("Next() = %d", s.Next())
		}
		for _, l := range [][]pair{collect(s.Lookup([]int{0}, api.Row{value.Int(2)})), collect(s.Range(1, value.Text("b"), null))} {
			if len(l) != 2 || l[0].id != 2 || l[1].id != 7 {
				t.Errorf("rows: %v", l)
			}
		}
	}
}

// An iterator yields what the store contained when the iteration began.
func TestIteratorsDuringChanges(t *testing.T) {
	for _, table := range tables() {
		s := New(table)
		for i := range int64(20) {
			s.Insert(api.Row{value.Int(i % 3), value.Int(i), null})
		}
		for k, seq := range []iter.Seq2[int64, api.Row]{s.All(), s.Lookup([]int{0}, api.Row{value.Int(1)}), s.Range(1, value.Int(3), value.Int(15)), s.Range(0, null, null)} {
			want := collect(seq)
			var got []pair
			for id, r := range seq {
				got = append(got, pair{id, r})
				for other := range int64(25) {
					if other%2 == 0 {
						s.Delete(other)
					} else {
						s.Put(other, api.Row{value.Int(1), value.Int(7), null})
					}
				}
			}
			if !equal(got, want) || len(got) == 0 {
				t.Fatalf("iterator %d yields %v, want %v", k, got, want)
			}
			n := 0
			for range seq {
				n++
				if n == 2 {
					break
				}
			}
			if n != 2 || equal(collect(seq), want) {
				t.Fatalf("iterator %d: a second iteration", k)
			}
			for i := range int64(25) {
				s.Put(i+1, api.Row{value.Int(i % 3), value.Int(i), null})
			}
		}
	}
}

func TestNoSharing(t *testing.T) {
	s := New(tables()[1])
	row := api.Row{value.Int(1), value.Int(2), null}
	s.Insert(row)
	row[0] = value.Int(9)
	spoil := func(r api.Row) { r[1] = value.Int(9) }
	got, _ := s.Get(1)
	spoil(got)
	columns, values := []int{0}, api.Row{value.Int(1)}
	lookup := s.Lookup(columns, values)
	columns[0], values[0] = 1, value.Int(9)
	for _, seq := range []iter.Seq2[int64, api.Row]{s.All(), lookup, s.Range(0, null, null), s.Range(1, null, null)} {
		for _, r := range seq {
			spoil(r)
		}
	}
	if l := collect(lookup); len(l) != 1 || value.CompareRows(l[0].row, api.Row{value.Int(1), value.Int(2), null}) != 0 {
		t.Errorf("rows: %v", l)
	}
	kept := collect(s.All())
	got, _ = s.Delete(1)
	spoil(got)
	if value.CompareRows(kept[0].row, api.Row{value.Int(1), value.Int(2), null}) != 0 {
		t.Error("a result shares memory with the store")
	}
}
