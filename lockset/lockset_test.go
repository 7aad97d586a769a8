package lockset

import (
	"math/rand"
	"reflect"
	"slices"
	"testing"

	"disjoint/api"
	"disjoint/copies"
	"disjoint/predicate"
	"disjoint/value"
)

var variables = []api.Variable{{Type: api.Integer, High: 9}}

// between is an access to the rows from low to high.
func between(table int, write bool, low, high int64) api.Access {
	c := api.Clause{NotNull: []int{0}, Ints: []api.Constraint{
		{Linear: api.Linear{Const: low, Coefs: []api.Coef{{Var: 0, N: -1}}}},
		{Linear: api.Linear{Const: -high, Coefs: []api.Coef{{Var: 0, N: 1}}}},
	}}
	return api.Access{Write: write, Predicate: api.Predicate{Table: table, Columns: 1, Variables: variables, Clauses: []api.Clause{c}}}
}

func read(low, high int64) api.Access { return between(0, false, low, high) }

func write(low, high int64) api.Access { return between(0, true, low, high) }

func invalid() api.Access {
	a := read(1, 2)
	a.Predicate.Table = -1
	return a
}

// naive contains the grants of each transaction.
type naive map[int64][][]api.Access

func (s naive) held(txn int64) []api.Access { return slices.Concat(s[txn]...) }

func conflict(a, b []api.Access) bool {
	for _, x := range a {
		for _, y := range b {
			if _, ok := predicate.Overlap(x.Predicate, y.Predicate); ok && (x.Write || y.Write) {
				return true
			}
		}
	}
	return false
}

// isWitness reports whether a row belongs to accesses of both lists, of which one writes.
func isWitness(w api.Wait, a, b []api.Access) bool {
	for _, x := range a {
		for _, y := range b {
			if (x.Write || y.Write) && x.Predicate.Table == w.Table && y.Predicate.Table == w.Table && predicate.Matches(x.Predicate, w.Row) && predicate.Matches(y.Predicate, w.Row) {
				return true
			}
		}
	}
	return false
}

func random(r *rand.Rand) []api.Access {
	var l []api.Access
	for range r.Intn(3) {
		low := r.Int63n(10)
		l = append(l, between(r.Intn(2), r.Intn(2) == 0, low, low+r.Int63n(4)-1))
	}
	return l
}

func check(t *testing.T, s *Set, n naive, r *rand.Rand) {
	t.Helper()
	var transactions []int64
	for txn := int64(-1); txn < 6; txn++ {
		if len(n.held(txn)) > 0 {
			transactions = append(transactions, txn)
		}
		if !slices.EqualFunc(s.Held(txn), n.held(txn), func(a, b api.Access) bool { return reflect.DeepEqual(a, b) }) {
			t.Fatalf("Held(%d) = %v", txn, s.Held(txn))
		}
	}
	if !slices.Equal(s.Transactions(), transactions) {
		t.Fatalf("Transactions() = %v, want %v", s.Transactions(), transactions)
	}
	txn, l := r.Int63n(6), random(r)
	waits := s.Conflicts(txn, l)
	k := 0
	for _, other := range transactions {
		if other == txn || !conflict(l, n.held(other)) {
			continue
		}
		if k >= len(waits) || waits[k].Txn != other || !isWitness(waits[k], l, n.held(other)) {
			t.Fatalf("Conflicts(%d) = %v", txn, waits)
		}
		k++
	}
	if k != len(waits) {
		t.Fatalf("Conflicts(%d) = %v", txn, waits)
	}
}

func TestRandom(t *testing.T) {
	r := rand.New(rand.NewSource(61))
	s, n := New(), naive{}
	conflicts := 0
	for range 1500 {
		txn, l := r.Int63n(6)-1, random(r)
		switch r.Intn(6) {
		case 0, 1, 2:
			if e := s.Grant(txn, l); e != api.OK {
				t.Fatalf("Grant: %d", e)
			}
			n[txn] = append(n[txn], l)
		case 3, 4:
			e := s.Reduce(txn, l)
			if len(n[txn]) == 0 {
				if e != api.ErrState {
					t.Fatalf("Reduce without a grant: %d", e)
				}
				break
			}
			if e != api.OK {
				t.Fatalf("Reduce: %d", e)
			}
			n[txn] = append(slices.Clone(n[txn][:len(n[txn])-1]), l)
		default:
			s.Release(txn)
			delete(n, txn)
		}
		check(t, s, n, r)
		conflicts += len(s.Conflicts(9, random(r)))
	}
	if conflicts < 500 {
		t.Errorf("only %d conflicts", conflicts)
	}
}

func TestExample(t *testing.T) {
	s := New()
	if s.Grant(1, []api.Access{write(0, 5)}) != api.OK {
		t.Fatal("Grant")
	}
	l := s.Conflicts(2, []api.Access{read(3, 3)})
	if len(l) != 1 || l[0].Txn != 1 || l[0].Table != 0 || !slices.Equal(l[0].Row, api.Row{value.Int(3)}) {
		t.Errorf("Conflicts = %v", l)
	}
	if s.Reduce(1, []api.Access{write(4, 4)}) != api.OK || len(s.Conflicts(2, []api.Access{read(3, 3)})) != 0 || len(s.Conflicts(1, []api.Access{write(4, 4)})) != 0 {
		t.Error("after Reduce")
	}
}

func TestErrors(t *testing.T) {
	s := New()
	if e := s.Grant(1, []api.Access{read(1, 2), invalid()}); e != api.ErrInvalid || len(s.Held(1)) != 0 || len(s.Transactions()) != 0 {
		t.Errorf("Grant: %d", e)
	}
	if e := s.Reduce(1, nil); e != api.ErrState {
		t.Errorf("Reduce: %d", e)
	}
	if e := s.Reduce(1, []api.Access{invalid()}); e != api.ErrInvalid {
		t.Errorf("Reduce: %d", e)
	}
	// A grant without accesses can be reduced, and is the last one.
	if s.Grant(1, []api.Access{write(1, 2)}) != api.OK || s.Grant(1, nil) != api.OK {
		t.Fatal("Grant")
	}
	if e := s.Reduce(1, []api.Access{invalid()}); e != api.ErrInvalid || len(s.Held(1)) != 1 {
		t.Errorf("Reduce: %d", e)
	}
	if s.Reduce(1, []api.Access{read(5, 6)}) != api.OK || len(s.Held(1)) != 2 || s.Reduce(1, nil) != api.OK || len(s.Held(1)) != 1 {
		t.Errorf("Held = %v", s.Held(1))
	}
	s.Release(1)
	if e := s.Reduce(1, nil); e != api.ErrState {
		t.Errorf("Reduce after Release: %d", e)
	}
	bad := read(1, 2)
	bad.Predicate.Columns = 0
	if e := s.Grant(1, []api.Access{bad}); e != api.ErrInvalid {
		t.Errorf("Grant: %d", e)
	}
	s.Grant(1, nil)
	if len(s.Transactions()) != 0 {
		t.Error("a transaction without locks")
	}
}

func TestReadsDoNotConflict(t *testing.T) {
	s := New()
	s.Grant(1, []api.Access{read(0, 9), write(3, 3)})
	s.Grant(2, []api.Access{read(0, 9)})
	if l := s.Conflicts(3, []api.Access{read(4, 9)}); len(l) != 0 {
		t.Errorf("Conflicts = %v", l)
	}
	if l := s.Conflicts(3, []api.Access{read(0, 9)}); len(l) != 1 || l[0].Txn != 1 || l[0].Row[0] != value.Int(3) {
		t.Errorf("Conflicts = %v", l)
	}
	if l := s.Conflicts(3, []api.Access{write(5, 5)}); len(l) != 2 || l[0].Txn != 1 || l[1].Txn != 2 {
		t.Errorf("Conflicts = %v", l)
	}
	if l := s.Conflicts(3, []api.Access{between(1, true, 0, 9), write(5, 4)}); len(l) != 0 {
		t.Errorf("Conflicts = %v", l)
	}
	if l := s.Conflicts(3, nil); len(l) != 0 {
		t.Errorf("Conflicts = %v", l)
	}
}

func TestNoSharing(t *testing.T) {
	s := New()
	l := []api.Access{write(2, 4)}
	want := copies.Accesses(l)
	spoil := func(l []api.Access) {
		l[0].Predicate.Clauses[0].Ints[0].Linear.Const = -9
		l[0].Predicate.Variables = nil
	}
	s.Grant(1, l)
	spoil(l)
	spoil(s.Held(1))
	if !reflect.DeepEqual(s.Held(1), want) {
		t.Errorf("Held = %v", s.Held(1))
	}
	again := copies.Accesses(want)
	s.Reduce(1, again)
	spoil(again)
	s.Conflicts(2, want)[0].Row[0] = value.Int(99)
	if !reflect.DeepEqual(s.Held(1), want) {
		t.Errorf("Held = %v", s.Held(1))
	}
}
