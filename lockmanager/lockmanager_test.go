package lockmanager

import (
	"math"
	"math/rand"
	"reflect"
	"slices"
	"testing"

	"disjoint/api"
	"disjoint/predicate"
	"disjoint/value"
)

var variables = []api.Variable{{Type: api.Integer, High: 9}}

// between is an access to the rows from low to high.
func between(write bool, low, high int64) api.Access {
	c := api.Clause{NotNull: []int{0}, Ints: []api.Constraint{
		{Linear: api.Linear{Const: low, Coefs: []api.Coef{{Var: 0, N: -1}}}},
		{Linear: api.Linear{Const: -high, Coefs: []api.Coef{{Var: 0, N: 1}}}},
	}}
	return api.Access{Write: write, Predicate: api.Predicate{Columns: 1, Variables: variables, Clauses: []api.Clause{c}}}
}

func read(low, high int64) []api.Access { return []api.Access{between(false, low, high)} }

func write(low, high int64) []api.Access { return []api.Access{between(true, low, high)} }

func bad() []api.Access {
	l := read(1, 2)
	l[0].Predicate.Table = -1
	return l
}

func conflict(a, b []api.Access) bool {
	for _, x := range a {
		for _, y := range b {
			if _, ok := predicate.Overlap(x.Predicate, y.Predicate); ok && (x.Write || y.Write) {
				return true
			}
		}
	}
	return false
}

func isWitness(w api.Wait, a, b []api.Access) bool {
	for _, x := range a {
		for _, y := range b {
			if (x.Write || y.Write) && w.Table == 0 && predicate.Matches(x.Predicate, w.Row) && predicate.Matches(y.Predicate, w.Row) {
				return true
			}
		}
	}
	return false
}

// request is a waiting request.
type request struct {
	txn int64
	l   []api.Access
}

// model is the definition: the granted requests of each transaction, and the queue.
type model struct {
	granted map[int64][][]api.Access
	queue   []request
}

func (m *model) locks(txn int64) []api.Access { return slices.Concat(m.granted[txn]...) }

// blockers returns the transactions that block a request, in the order of the reasons.
func (m *model) blockers(txn int64, l []api.Access) []int64 {
	var b []int64
	for other := range int64(10) {
		if other != txn && conflict(l, m.locks(other)) {
			b = append(b, other)
		}
	}
	for _, r := range m.queue {
		if r.txn == txn {
			break
		}
		if conflict(l, r.l) && !conflict(r.l, m.locks(txn)) && !slices.Contains(b, r.txn) {
			b = append(b, r.txn)
		}
	}
	return b
}

func (m *model) grant() []int64 {
	var granted []int64
	for {
		i := slices.IndexFunc(m.queue, func(r request) bool { return len(m.blockers(r.txn, r.l)) == 0 })
		if i < 0 {
			return granted
		}
		r := m.queue[i]
		m.queue = slices.Delete(m.queue, i, i+1)
		m.granted[r.txn] = append(m.granted[r.txn], r.l)
		granted = append(granted, r.txn)
	}
}

func (m *model) waits(txn int64) bool {
	return slices.ContainsFunc(m.queue, func(r request) bool { return r.txn == txn })
}

func (m *model) request(txn int64) []api.Access {
	for _, r := range m.queue {
		if r.txn == txn {
			return r.l
		}
	}
	return nil
}

// deadlock returns the shortest and then least cycle, by trying all of them.
func (m *model) deadlock(txn int64) []int64 {
	edges := map[int64][]int64{}
	for _, r := range m.queue {
		edges[r.txn] = m.blockers(r.txn, r.l)
	}
	var best []int64
	var try func(path []int64)
	try = func(path []int64) {
		for _, next := range edges[path[len(path)-1]] {
			switch {
			case next == txn:
				if best == nil || len(path) < len(best) || len(path) == len(best) && slices.Compare(path, best) < 0 {
					best = slices.Clone(path)
				}
			case !slices.Contains(path, next):
				try(append(path, next))
			}
		}
	}
	try([]int64{txn})
	return best
}

func checkReasons(t *testing.T, x *model, txn int64, l []api.Access, waits []api.Wait) {
	t.Helper()
	want := x.blockers(txn, l)
	if len(waits) != len(want) {
		t.Fatalf("the reasons of %d are %v, want %v", txn, waits, want)
	}
	for i, w := range waits {
		if w.Txn != want[i] || !isWitness(w, l, append(x.locks(w.Txn), x.request(w.Txn)...)) {
			t.Fatalf("the reasons of %d are %v, want %v", txn, waits, want)
		}
	}
}

func check(t *testing.T, m *Manager, x *model) {
	t.Helper()
	var waiting []int64
	for _, r := range x.queue {
		waiting = append(waiting, r.txn)
		checkReasons(t, x, r.txn, r.l, m.Waits(r.txn))
		if len(m.Waits(r.txn)) == 0 {
			t.Fatalf("%d waits for nothing", r.txn)
		}
	}
	if !slices.Equal(m.Waiting(), waiting) {
		t.Fatalf("Waiting = %v, want %v", m.Waiting(), waiting)
	}
	for txn := range int64(8) {
		if held := m.Held(txn); len(held) != len(x.locks(txn)) || len(held) > 0 && !reflect.DeepEqual(held, x.locks(txn)) {
			t.Fatalf("Held(%d) = %v", txn, held)
		}
		if !x.waits(txn) && m.Waits(txn) != nil {
			t.Fatalf("Waits(%d) = %v", txn, m.Waits(txn))
		}
		if got, want := m.Deadlock(txn), x.deadlock(txn); !slices.Equal(got, want) {
			t.Fatalf("Deadlock(%d) = %v, want %v", txn, got, want)
		}
		for other := range txn {
			if conflict(x.locks(txn), x.locks(other)) {
				t.Fatalf("the locks of %d and %d conflict", txn, other)
			}
		}
	}
}

func random(r *rand.Rand) []api.Access {
	var l []api.Access
	for range 1 + r.Intn(2) {
		low := r.Int63n(10)
		l = append(l, between(r.Intn(2) == 0, low, low+r.Int63n(3)-1))
	}
	return l
}

func TestRandom(t *testing.T) {
	r := rand.New(rand.NewSource(65))
	waits, deadlocks := 0, 0
	for range 60 {
		m, x := New(), &model{granted: map[int64][][]api.Access{}}
		for range 25 {
			txn := 1 + r.Int63n(6)
			switch r.Intn(7) {
			case 0:
				got, want := m.Release(txn), []int64(nil)
				delete(x.granted, txn)
				x.queue = slices.DeleteFunc(x.queue, func(q request) bool { return q.txn == txn })
				if want = x.grant(); !slices.Equal(got, want) {
					t.Fatalf("Release grants %v, want %v", got, want)
				}
			case 1, 2:
				reduce(t, m, x, txn, r)
			default:
				l := random(r)
				ok, w, e := m.Request(txn, l)
				if x.waits(txn) {
					if ok || w != nil || e != api.ErrState {
						t.Fatalf("Request of %d: %v, %v, %d", txn, ok, w, e)
					}
					break
				}
				if e != api.OK || ok != (len(x.blockers(txn, l)) == 0) {
					t.Fatalf("Request of %d: %v, %v, %d", txn, ok, w, e)
				}
				if ok {
					x.granted[txn] = append(x.granted[txn], l)
				} else {
					x.queue = append(x.queue, request{txn, l})
					waits++
				}
				checkReasons(t, x, txn, l, w)
			}
			check(t, m, x)
			for _, q := range x.queue {
				if x.deadlock(q.txn) != nil {
					deadlocks++
				}
			}
		}
	}
	if waits < 100 || deadlocks < 20 {
		t.Errorf("%d waits, %d deadlocks", waits, deadlocks)
	}
}

// reduce replaces the last granted request by a part of it.
func reduce(t *testing.T, m *Manager, x *model, txn int64, r *rand.Rand) {
	t.Helper()
	grants := x.granted[txn]
	var l []api.Access
	if len(grants) > 0 {
		l = slices.Clone(grants[len(grants)-1])
		if len(l) > 0 {
			l[0].Write = l[0].Write && r.Intn(2) == 0
			l = l[:r.Intn(len(l)+1)]
		}
	}
	got, e := m.Reduce(txn, l)
	if x.waits(txn) || len(grants) == 0 {
		if got != nil || e != api.ErrState {
			t.Fatalf("Reduce of %d: %v, %d", txn, got, e)
		}
		return
	}
	x.granted[txn] = append(slices.Clone(grants[:len(grants)-1]), l)
	if want := x.grant(); e != api.OK || !slices.Equal(got, want) {
		t.Fatalf("Reduce of %d: %v, %d, want %v", txn, got, e, want)
	}
}

func TestExample(t *testing.T) {
	m := New()
	if ok, w, e := m.Request(1, write(0, 5)); !ok || w != nil || e != api.OK {
		t.Errorf("the request of 1: %v, %v, %d", ok, w, e)
	}
	if ok, w, _ := m.Request(2, read(3, 3)); ok || len(w) != 1 || w[0].Txn != 1 || w[0].Row[0] != value.Int(3) {
		t.Errorf("the request of 2: %v, %v", ok, w)
	}
	if ok, w, _ := m.Request(3, write(3, 3)); ok || len(w) != 2 || w[0].Txn != 1 || w[1].Txn != 2 {
		t.Errorf("the request of 3: %v, %v", ok, w)
	}
	if ok, _, _ := m.Request(4, read(7, 7)); !ok {
		t.Error("the request of 4 is not granted")
	}
	if l := m.Release(1); !slices.Equal(l, []int64{2}) {
		t.Errorf("Release grants %v", l)
	}
	if w := m.Waits(3); len(w) != 1 || w[0].Txn != 2 {
		t.Errorf("3 waits for %v", w)
	}
	if l := m.Release(2); !slices.Equal(l, []int64{3}) || len(m.Held(3)) != 1 || m.Waits(3) != nil {
		t.Errorf("Release grants %v", l)
	}
}

func TestDeadlock(t *testing.T) {
	m := New()
	m.Request(1, write(1, 1))
	m.Request(2, write(2, 2))
	m.Request(3, write(3, 3))
	m.Request(1, write(2, 2))
	m.Request(2, write(3, 3))
	if m.Deadlock(1) != nil || m.Deadlock(3) != nil {
		t.Error("a deadlock too early")
	}
	m.Request(3, read(1, 1))
	if c := m.Deadlock(3); !slices.Equal(c, []int64{3, 1, 2}) || Victim(c) != 3 {
		t.Errorf("Deadlock = %v", c)
	}
	if l := m.Release(3); !slices.Equal(l, []int64{2}) || m.Deadlock(1) != nil {
		t.Errorf("Release grants %v", l)
	}
	if l := m.Release(2); !slices.Equal(l, []int64{1}) {
		t.Errorf("Release grants %v", l)
	}
	for want, c := range map[int64][]int64{0: nil, 9: {3, 9, 4}, -2: {-2, -5}, math.MaxInt64: {1, math.MaxInt64}} {
		if Victim(c) != want {
			t.Errorf("Victim(%v) = %d", c, Victim(c))
		}
	}
}

func TestErrors(t *testing.T) {
	m := New()
	if ok, w, e := m.Request(1, bad()); ok || w != nil || e != api.ErrInvalid {
		t.Errorf("Request: %v, %v, %d", ok, w, e)
	}
	if l, e := m.Reduce(1, nil); l != nil || e != api.ErrState {
		t.Errorf("Reduce: %v, %d", l, e)
	}
	if l, e := m.Reduce(1, bad()); l != nil || e != api.ErrInvalid {
		t.Errorf("Reduce: %v, %d", l, e)
	}
	m.Request(1, write(1, 1))
	m.Request(2, nil)
	if _, _, e := m.Request(2, write(1, 1)); e != api.OK {
		t.Errorf("Request: %d", e)
	}
	for _, l := range [][]api.Access{nil, bad()} {
		want := api.ErrState
		if l != nil {
			want = api.ErrInvalid
		}
		if _, _, e := m.Request(2, l); e != want {
			t.Errorf("Request of a waiting transaction: %d", e)
		}
		if _, e := m.Reduce(2, l); e != want {
			t.Errorf("Reduce of a waiting transaction: %d", e)
		}
	}
	if l := m.Release(7); l != nil {
		t.Errorf("Release: %v", l)
	}
	m.Release(1)
	if _, e := m.Reduce(1, nil); e != api.ErrState {
		t.Errorf("Reduce after Release: %d", e)
	}
	if l, e := m.Reduce(2, nil); l != nil || e != api.OK || len(m.Held(2)) != 0 {
		t.Errorf("Reduce: %v, %d", l, e)
	}
}
