package lockqueue

import (
	"math/rand"
	"reflect"
	"slices"
	"testing"

	"disjoint/api"
	"disjoint/copies"
	"disjoint/lockset"
	"disjoint/predicate"
	"disjoint/value"
)

var variables = []api.Variable{{Type: api.Integer, High: 9}}

// between is an access to the rows from low to high.
func between(write bool, low, high int64) api.Access {
	c := api.Clause{NotNull: []int{0}, Ints: []api.Constraint{
		{Linear: api.Linear{Const: low, Coefs: []api.Coef{{Var: 0, N: -1}}}},
		{Linear: api.Linear{Const: -high, Coefs: []api.Coef{{Var: 0, N: 1}}}},
	}}
	return api.Access{Write: write, Predicate: api.Predicate{Columns: 1, Variables: variables, Clauses: []api.Clause{c}}}
}

func read(low, high int64) []api.Access { return []api.Access{between(false, low, high)} }

func write(low, high int64) []api.Access { return []api.Access{between(true, low, high)} }

func conflict(a, b []api.Access) bool {
	for _, x := range a {
		for _, y := range b {
			if _, ok := predicate.Overlap(x.Predicate, y.Predicate); ok && (x.Write || y.Write) {
				return true
			}
		}
	}
	return false
}

func isWitness(w api.Wait, a, b []api.Access) bool {
	for _, x := range a {
		for _, y := range b {
			if (x.Write || y.Write) && w.Table == 0 && predicate.Matches(x.Predicate, w.Row) && predicate.Matches(y.Predicate, w.Row) {
				return true
			}
		}
	}
	return false
}

func random(r *rand.Rand) []api.Access {
	var l []api.Access
	for range 1 + r.Intn(2) {
		low := r.Int63n(10)
		l = append(l, between(r.Intn(2) == 0, low, low+r.Int63n(3)-1))
	}
	return l
}

// naiveConflicts returns the transactions of the earlier requests for which a transaction waits.
func naiveConflicts(requests []request, txn int64, l []api.Access, s *lockset.Set) []int64 {
	var waits []int64
	for _, r := range requests {
		if r.txn == txn {
			break
		}
		if conflict(l, r.accesses) && !conflict(r.accesses, s.Held(txn)) {
			waits = append(waits, r.txn)
		}
	}
	return waits
}

func naiveNext(requests []request, s *lockset.Set) (int64, bool) {
	for _, r := range requests {
		free := len(naiveConflicts(requests, r.txn, r.accesses, s)) == 0
		for _, other := range s.Transactions() {
			free = free && (other == r.txn || !conflict(r.accesses, s.Held(other)))
		}
		if free {
			return r.txn, true
		}
	}
	return 0, false
}

func TestRandom(t *testing.T) {
	r := rand.New(rand.NewSource(62))
	waited, granted := 0, 0
	for range 150 {
		q, s := New(), lockset.New()
		var requests []request
		for range 20 {
			txn, l := 1+r.Int63n(6), random(r)
			switch r.Intn(5) {
			case 0:
				s.Grant(txn, l)
			case 1:
				s.Release(txn)
			case 2:
				i := slices.IndexFunc(requests, func(x request) bool { return x.txn == txn })
				if q.Remove(txn) != (i >= 0) {
					t.Fatalf("Remove(%d) is %v", txn, i < 0)
				}
				if i >= 0 {
					requests = slices.Delete(requests, i, i+1)
				}
			default:
				has := slices.ContainsFunc(requests, func(x request) bool { return x.txn == txn })
				e := q.Push(txn, l)
				if has != (e == api.ErrState) || !has && e != api.OK {
					t.Fatalf("Push(%d): %d", txn, e)
				}
				if !has {
					requests = append(requests, request{txn, l})
				}
			}
			waited += checkQueue(t, q, s, requests, random(r))
			want, ok := naiveNext(requests, s)
			if got, found := q.Next(s); got != want || found != ok {
				t.Fatalf("Next = %d, %v, want %d, %v", got, found, want, ok)
			}
			if ok {
				granted++
			}
		}
	}
	if waited < 500 || granted < 200 {
		t.Errorf("%d waits, %d grants", waited, granted)
	}
}

// checkQueue compares a queue with a list of requests, and returns the number of reasons.
func checkQueue(t *testing.T, q *Queue, s *lockset.Set, requests []request, l []api.Access) int {
	t.Helper()
	var waiting []int64
	for _, x := range requests {
		waiting = append(waiting, x.txn)
	}
	if !slices.Equal(q.Waiting(), waiting) {
		t.Fatalf("Waiting = %v, want %v", q.Waiting(), waiting)
	}
	n := 0
	for txn := int64(1); txn < 8; txn++ {
		i := slices.Index(waiting, txn)
		own, ok := q.Request(txn)
		if ok != (i >= 0) || ok && !reflect.DeepEqual(own, requests[i].accesses) || !ok && own != nil {
			t.Fatalf("Request(%d) = %v, %v", txn, own, ok)
		}
		if ok {
			l = own
		}
		want := naiveConflicts(requests, txn, l, s)
		got := q.Conflicts(txn, l, s)
		if len(got) != len(want) {
			t.Fatalf("Conflicts(%d) = %v, want %v", txn, got, want)
		}
		for k, w := range got {
			other := requests[slices.Index(waiting, want[k])]
			if w.Txn != want[k] || !isWitness(w, l, other.accesses) {
				t.Fatalf("Conflicts(%d) = %v, want %v", txn, got, want)
			}
		}
		n += len(got)
	}
	return n
}

func TestExample(t *testing.T) {
	q, s := New(), lockset.New()
	s.Grant(1, read(3, 3))
	q.Push(2, write(0, 9))
	if l := q.Conflicts(3, read(3, 3), s); len(l) != 1 || l[0].Txn != 2 || !slices.Equal(l[0].Row, api.Row{value.Int(3)}) {
		t.Errorf("transaction 3 waits for %v", l)
	}
	if l := q.Conflicts(1, read(3, 3), s); len(l) != 0 {
		t.Errorf("transaction 1 waits for %v", l)
	}
	if txn, ok := q.Next(s); ok {
		t.Errorf("Next = %d", txn)
	}
	s.Release(1)
	if txn, ok := q.Next(s); txn != 2 || !ok {
		t.Errorf("Next = %d, %v", txn, ok)
	}
}

// A request overtakes only requests that do not conflict with it, or that wait for its transaction anyway.
func TestOvertaking(t *testing.T) {
	q, s := New(), lockset.New()
	s.Grant(9, write(5, 5))
	q.Push(1, write(4, 6))
	q.Push(2, read(6, 6))
	q.Push(3, read(8, 8))
	if txn, ok := q.Next(s); txn != 3 || !ok {
		t.Errorf("Next = %d, %v", txn, ok)
	}
	q.Remove(3)
	if txn, ok := q.Next(s); ok {
		t.Errorf("Next = %d", txn)
	}
	s.Grant(2, read(4, 4))
	if txn, ok := q.Next(s); txn != 2 || !ok {
		t.Errorf("Next = %d, %v", txn, ok)
	}
	// Without locks the first request is granted.
	q, s = New(), lockset.New()
	q.Push(7, write(0, 9))
	q.Push(3, write(0, 9))
	if txn, ok := q.Next(s); txn != 7 || !ok {
		t.Errorf("Next = %d, %v", txn, ok)
	}
	if txn, ok := New().Next(s); txn != 0 || ok {
		t.Errorf("Next of an empty queue = %d", txn)
	}
}

func TestErrors(t *testing.T) {
	bad := read(1, 2)
	bad[0].Predicate.Columns = 2
	q := New()
	for i, c := range []struct {
		txn  int64
		l    []api.Access
		want api.Errno
	}{{0, nil, api.ErrInvalid}, {-1, read(1, 2), api.ErrInvalid}, {1, bad, api.ErrInvalid}, {1, append(read(1, 2), bad...), api.ErrInvalid}, {1, read(1, 2), api.OK}, {1, read(1, 2), api.ErrState}, {1, bad, api.ErrInvalid}, {2, nil, api.OK}} {
		if e := q.Push(c.txn, c.l); e != c.want {
			t.Errorf("case %d: Push = %d", i, e)
		}
	}
	if !slices.Equal(q.Waiting(), []int64{1, 2}) {
		t.Errorf("Waiting = %v", q.Waiting())
	}
	if l, ok := q.Request(2); len(l) != 0 || !ok {
		t.Errorf("Request = %v, %v", l, ok)
	}
	if q.Remove(3) || !q.Remove(1) || q.Remove(1) {
		t.Error("Remove")
	}
}

func TestNoSharing(t *testing.T) {
	q, s := New(), lockset.New()
	l := write(2, 4)
	want := copies.Accesses(l)
	q.Push(1, l)
	l[0].Predicate.Clauses[0].Ints[0].Linear.Const = 9
	got, _ := q.Request(1)
	got[0].Predicate.Clauses[0].Ints[0].Linear.Const = 9
	q.Waiting()[0] = 7
	q.Conflicts(2, want, s)[0].Row[0] = value.Int(99)
	if got, _ = q.Request(1); !reflect.DeepEqual(got, want) || q.Waiting()[0] != 1 {
		t.Errorf("Request = %v", got)
	}
}
