package undolog

import (
	"maps"
	"math/rand"
	"reflect"
	"slices"
	"testing"

	"disjoint/api"
	"disjoint/value"
)

func row(n int64) api.Row {
	if n == 0 {
		return nil
	}
	return api.Row{value.Int(n)}
}

// change changes a row from one value to another one, where 0 stands for no row.
func change(table int, id, old, new int64) api.Change {
	return api.Change{Table: table, ID: id, Old: row(old), New: row(new)}
}

func mustAdd(t *testing.T, l *Log, changes ...api.Change) {
	t.Helper()
	for _, c := range changes {
		if e := l.Add(c); e != api.OK {
			t.Fatalf("Add(%v): %d", c, e)
		}
	}
}

func TestExample(t *testing.T) {
	l := New()
	mustAdd(t, l, change(0, 1, 0, 5), change(0, 1, 5, 7))
	if net := l.Net(); !reflect.DeepEqual(net, []api.Change{change(0, 1, 0, 7)}) {
		t.Errorf("Net = %v", net)
	}
	mustAdd(t, l, change(0, 1, 7, 0))
	if net := l.Net(); len(net) != 0 || l.Len() != 3 {
		t.Errorf("Net = %v", net)
	}
}

func TestAddErrors(t *testing.T) {
	l := New()
	mustAdd(t, l, change(0, 1, 0, 5), change(1, 1, 3, 4), change(0, 2, 8, 0), api.Change{ID: 9, Old: api.Row{value.Int(1)}, New: api.Row{}})
	for i, c := range []api.Change{change(-1, 1, 0, 5), change(0, 0, 0, 5), change(0, -1, 0, 5), change(0, 7, 0, 0), {ID: 7, Old: api.Row{}, New: api.Row{}}, change(0, 1, 0, 5), change(0, 1, 6, 5), change(1, 1, 5, 0), change(0, 2, 8, 9), change(0, 9, 1, 2), {ID: 1, Old: api.Row{value.Int(5), value.Int(5)}, New: row(1)}} {
		if e := l.Add(c); e != api.ErrInvalid || l.Len() != 4 {
			t.Errorf("case %d: Add = %d", i, e)
		}
	}
	mustAdd(t, l, change(0, 1, 5, 5), change(0, 2, 0, 9), change(1, 1, 4, 0), api.Change{ID: 9, Old: api.Row{}, New: row(3)}, change(0, 100, 3, 4))
	if l.Len() != 9 {
		t.Errorf("Len() = %d", l.Len())
	}
}

func TestSavepoints(t *testing.T) {
	l := New()
	if l.Save("") != api.ErrInvalid {
		t.Error("a savepoint without a name")
	}
	for _, name := range []string{"", "a"} {
		if c, e := l.Back(name); c != nil || e != api.ErrNotFound || l.Release(name) != api.ErrNotFound {
			t.Errorf("Back(%q) = %v, %d", name, c, e)
		}
	}
	l.Save("a")
	mustAdd(t, l, change(0, 1, 0, 1))
	l.Save("b")
	mustAdd(t, l, change(0, 1, 1, 2), change(0, 2, 0, 9))
	l.Save("c")
	mustAdd(t, l, change(0, 1, 2, 3))
	c, e := l.Back("b")
	if want := []api.Change{change(0, 1, 3, 2), change(0, 2, 9, 0), change(0, 1, 2, 1)}; e != api.OK || !reflect.DeepEqual(c, want) || l.Len() != 1 {
		t.Errorf("Back(b) = %v, %d", c, e)
	}
	if _, e := l.Back("c"); e != api.ErrNotFound {
		t.Errorf("Back(c) = %d", e)
	}
	// The savepoint itself remains.
	mustAdd(t, l, change(0, 1, 1, 4))
	if c, e := l.Back("b"); e != api.OK || len(c) != 1 {
		t.Errorf("Back(b) = %v, %d", c, e)
	}
	if c, e := l.Back("b"); e != api.OK || len(c) != 0 {
		t.Errorf("Back(b) = %v, %d", c, e)
	}
	// Release removes no changes.
	l.Save("d")
	if l.Release("b") != api.OK || l.Len() != 1 || l.Release("d") != api.ErrNotFound {
		t.Error("Release")
	}
	if c, e := l.Back("a"); e != api.OK || len(c) != 1 || l.Len() != 0 {
		t.Errorf("Back(a) = %v, %d", c, e)
	}
}

// A savepoint that is set again moves to the end.
func TestSaveAgain(t *testing.T) {
	l := New()
	l.Save("a")
	mustAdd(t, l, change(0, 1, 0, 1))
	l.Save("b")
	mustAdd(t, l, change(0, 1, 1, 2))
	l.Save("a")
	mustAdd(t, l, change(0, 1, 2, 3))
	if c, e := l.Back("b"); e != api.OK || len(c) != 2 {
		t.Errorf("Back(b) = %v, %d", c, e)
	}
	if _, e := l.Back("a"); e != api.ErrNotFound {
		t.Errorf("Back(a) = %d", e)
	}
}

func TestUndo(t *testing.T) {
	l := New()
	mustAdd(t, l, change(0, 1, 0, 1), change(0, 1, 1, 2), change(0, 1, 2, 3))
	for _, n := range []int{-1, 4, 1 << 40} {
		if c, e := l.Undo(n); c != nil || e != api.ErrInvalid || l.Len() != 3 {
			t.Errorf("Undo(%d) = %v, %d", n, c, e)
		}
	}
	l.Save("a")
	if c, e := l.Undo(1); c != nil || e != api.ErrInvalid {
		t.Errorf("Undo(1) = %v, %d", c, e)
	}
	if c, e := l.Undo(0); len(c) != 0 || e != api.OK {
		t.Errorf("Undo(0) = %v, %d", c, e)
	}
	mustAdd(t, l, change(0, 1, 3, 4), change(0, 1, 4, 5))
	if c, e := l.Undo(2); e != api.OK || !reflect.DeepEqual(c, []api.Change{change(0, 1, 5, 4), change(0, 1, 4, 3)}) {
		t.Errorf("Undo(2) = %v, %d", c, e)
	}
	l.Release("a")
	if c, e := l.Undo(3); e != api.OK || len(c) != 3 || l.Len() != 0 {
		t.Errorf("Undo(3) = %v, %d", c, e)
	}
}

func TestNet(t *testing.T) {
	l := New()
	mustAdd(t, l, change(1, 5, 0, 1), change(0, 9, 4, 5), change(0, 2, 7, 0), change(1, 2, 3, 4), change(0, 9, 5, 4), change(0, 2, 0, 8), change(1, 5, 1, 2), change(1, 2, 4, 0), change(0, 3, 6, 6), change(2, 1, 0, 1), change(2, 1, 1, 0))
	want := []api.Change{change(0, 2, 7, 8), change(1, 2, 3, 0), change(1, 5, 0, 2)}
	if net := l.Net(); !reflect.DeepEqual(net, want) {
		t.Errorf("Net = %v", net)
	}
}

// state is a set of rows, by tables and numbers.
type state map[[2]int64]int64

func (s state) perform(t *testing.T, l []api.Change) {
	t.Helper()
	number := func(r api.Row) int64 {
		if len(r) == 0 {
			return 0
		}
		return r[0].Int
	}
	for _, c := range l {
		k := [2]int64{int64(c.Table), c.ID}
		if s[k] != number(c.Old) {
			t.Fatalf("%v cannot be performed on %v", c, s)
		}
		s[k] = number(c.New)
		if s[k] == 0 {
			delete(s, k)
		}
	}
}

// Going back restores the state, and the net changes have the effect of all changes.
func TestRandom(t *testing.T) {
	r := rand.New(rand.NewSource(73))
	for range 300 {
		start := state{{0, 1}: 4, {1, 2}: 5}
		now := maps.Clone(start)
		l := New()
		type saved struct {
			name string
			s    state
		}
		var savepoints []saved
		var history []state
		for range 40 {
			name := string(rune('a' + r.Intn(3)))
			i := slices.IndexFunc(savepoints, func(s saved) bool { return s.name == name })
			switch r.Intn(9) {
			case 0:
				l.Save(name)
				if i >= 0 {
					savepoints = slices.Delete(savepoints, i, i+1)
				}
				savepoints = append(savepoints, saved{name, maps.Clone(now)})
			case 1:
				c, e := l.Back(name)
				if (e == api.OK) != (i >= 0) {
					t.Fatalf("Back: %d", e)
				}
				now.perform(t, c)
				if i >= 0 {
					if !maps.Equal(now, savepoints[i].s) {
						t.Fatalf("back at %v, want %v", now, savepoints[i].s)
					}
					savepoints = savepoints[:i+1]
				}
				history = nil
			case 2:
				if e := l.Release(name); (e == api.OK) != (i >= 0) {
					t.Fatalf("Release: %d", e)
				}
				if i >= 0 {
					savepoints = savepoints[:i]
				}
			case 3:
				n := r.Intn(4)
				if c, e := l.Undo(n); e == api.OK {
					now.perform(t, c)
					if n > 0 && n <= len(history) && !maps.Equal(now, history[len(history)-n]) {
						t.Fatalf("undone: %v, want %v", now, history[len(history)-n])
					}
					history = history[:max(0, len(history)-n)]
				}
			default:
				table, id := r.Intn(2), 1+r.Int63n(3)
				c := change(table, id, now[[2]int64{int64(table), id}], r.Int63n(3))
				if len(c.Old)+len(c.New) > 0 {
					mustAdd(t, l, c)
					history = append(history, maps.Clone(now))
					now.perform(t, []api.Change{c})
				}
			}
			net := maps.Clone(start)
			net.perform(t, l.Net())
			if !maps.Equal(net, now) {
				t.Fatalf("the net changes lead to %v, want %v", net, now)
			}
		}
	}
}

func TestInverseAndSharing(t *testing.T) {
	c := api.Change{Table: -3, ID: -7, Old: row(1), New: row(2)}
	i := Inverse(c)
	if !reflect.DeepEqual(i, api.Change{Table: -3, ID: -7, Old: row(2), New: row(1)}) || !reflect.DeepEqual(Inverse(i), c) || len(Inverse(api.Change{Old: row(1)}).Old) != 0 {
		t.Errorf("Inverse = %v", i)
	}
	i.Old[0] = value.Int(9)
	i.New[0] = value.Int(9)
	if c.New[0] != value.Int(2) || c.Old[0] != value.Int(1) {
		t.Error("Inverse shares memory with its argument")
	}
	l := New()
	c = change(0, 1, 1, 2)
	l.Add(c)
	c.Old[0], c.New[0] = value.Int(9), value.Int(9)
	net := l.Net()
	if !reflect.DeepEqual(net, []api.Change{change(0, 1, 1, 2)}) {
		t.Errorf("Net = %v", net)
	}
	net[0].Old[0], net[0].New[0] = value.Int(9), value.Int(9)
	mustAdd(t, l, change(0, 1, 2, 3))
	l.Net()[0].New[0] = value.Int(9)
	if c, _ := l.Undo(2); !reflect.DeepEqual(c, []api.Change{change(0, 1, 3, 2), change(0, 1, 2, 1)}) {
		t.Errorf("Undo = %v", c)
	}
}
