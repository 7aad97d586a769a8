package btree

import (
	"iter"
	"maps"
	"math"
	"math/rand"
	"slices"
	"testing"
)

var orders = []int{math.MinInt, -1, 0, 2, 3, 4, 5, 6, 7, 16, 1024, 1025, math.MaxInt}

func collect[K comparable, V any](s iter.Seq2[K, V]) ([]K, []V) {
	var keys []K
	var values []V
	for k, v := range s {
		keys = append(keys, k)
		values = append(values, v)
	}
	return keys, values
}

// checkAll compares a tree with a map.
func checkAll(t *testing.T, tree *Tree[int, string], m map[int]string) {
	t.Helper()
	if !tree.Valid() {
		t.Fatal("the tree is not valid")
	}
	want := slices.Sorted(maps.Keys(m))
	keys, values := collect(tree.All())
	if !slices.Equal(keys, want) || tree.Len() != len(m) {
		t.Fatalf("keys = %v, want %v", keys, want)
	}
	for i, k := range keys {
		if values[i] != m[k] {
			t.Fatalf("the value of %d is %q", k, values[i])
		}
	}
	low, lowValue, ok := tree.Min()
	high, highValue, ok2 := tree.Max()
	if ok != (len(want) > 0) || ok2 != ok {
		t.Fatal("Min or Max")
	}
	if ok && (low != want[0] || high != want[len(want)-1] || lowValue != m[low] || highValue != m[high]) {
		t.Fatal("Min or Max")
	}
	if !ok && (low != 0 || high != 0 || lowValue != "" || highValue != "") {
		t.Fatal("Min or Max of an empty tree")
	}
	checkHeight(t, tree)
}

func checkHeight(t *testing.T, tree *Tree[int, string]) {
	t.Helper()
	h := tree.Height()
	if tree.Len() == 0 {
		if h != 0 {
			t.Fatalf("the height of an empty tree is %d", h)
		}
		return
	}
	order := min(max(tree.order, 3), 1024)
	half := float64((order + 1) / 2)
	if h < 1 || float64(tree.Len()) < 2*math.Pow(half, float64(h-1))-1 || float64(tree.Len()) > math.Pow(float64(order), float64(h))-1 {
		t.Fatalf("a tree of order %d with %d keys has the height %d", order, tree.Len(), h)
	}
}

func TestRandom(t *testing.T) {
	for _, order := range orders {
		r := rand.New(rand.NewSource(11))
		tree := New[int, string](order)
		m := map[int]string{}
		checkAll(t, tree, m)
		for i := range 3000 {
			k := r.Intn(200)
			grow := i/500%2 == 0
			if grow == (r.Intn(4) > 0) {
				v := string(rune('a' + r.Intn(26)))
				old, ok := tree.Put(k, v)
				if want, had := m[k]; old != want || ok != had {
					t.Fatalf("Put(%d) = %q, %v", k, old, ok)
				}
				m[k] = v
			} else {
				old, ok := tree.Delete(k)
				if want, had := m[k]; old != want || ok != had {
					t.Fatalf("Delete(%d) = %q, %v", k, old, ok)
				}
				delete(m, k)
			}
			if v, ok := tree.Get(k); v != m[k] || ok != (m[k] != "") {
				t.Fatalf("Get(%d) = %q, %v", k, v, ok)
			}
			if i%10 == 0 {
				checkAll(t, tree, m)
			}
		}
		for k := range 200 {
			tree.Delete(k)
			delete(m, k)
			checkAll(t, tree, m)
		}
	}
}

func TestRanges(t *testing.T) {
	for _, order := range []int{3, 4, 5, 8, 100} {
		tree := New[int, string](order)
		var keys []int
		for k := 0; k < 120; k += 3 {
			tree.Put(k, "v")
			keys = append(keys, k)
		}
		for low := -2; low < 125; low++ {
			from := slices.DeleteFunc(slices.Clone(keys), func(k int) bool { return k < low })
			if got, _ := collect(tree.From(low)); !slices.Equal(got, from) {
				t.Fatalf("From(%d) = %v", low, got)
			}
			for high := low - 3; high < 125; high += 2 {
				want := slices.DeleteFunc(slices.Clone(from), func(k int) bool { return k >= high })
				if got, _ := collect(tree.Between(low, high)); !slices.Equal(got, want) {
					t.Fatalf("Between(%d, %d) = %v", low, high, got)
				}
			}
		}
	}
}

func TestInsertionOrders(t *testing.T) {
	const n = 150
	orderOf := map[string]func(i int) int{"up": func(i int) int { return i }, "down": func(i int) int { return n - 1 - i }, "mixed": func(i int) int { return i * 67 % n }}
	for _, order := range []int{3, 4, 9} {
		for name, f := range orderOf {
			tree := New[int, string](order)
			m := map[int]string{}
			for i := range n {
				tree.Put(f(i), "x")
				m[f(i)] = "x"
				checkAll(t, tree, m)
			}
			for i := range n {
				if _, ok := tree.Delete(f(i * 11 % n)); !ok {
					t.Fatalf("%s: no key", name)
				}
				delete(m, f(i*11%n))
				checkAll(t, tree, m)
			}
		}
	}
}

// An iterator yields what the tree contained when the iteration began.
func TestIteratorsDuringChanges(t *testing.T) {
	for _, order := range []int{3, 4, 32} {
		tree := New[int, int](order)
		for k := range 50 {
			tree.Put(k, k)
		}
		all, from, between := tree.All(), tree.From(10), tree.Between(10, 40)
		n := 0
		for k, v := range all {
			if k != n || v != n {
				t.Fatalf("All yields %d, %d, want %d", k, v, n)
			}
			n++
			tree.Delete(k)
			tree.Delete(k + 1)
			tree.Put(k+100, 1)
			tree.Put(49-k%10, -1)
		}
		if n != 50 {
			t.Fatalf("All yields %d keys", n)
		}
		for k := range 200 {
			tree.Delete(k)
		}
		tree.Put(20, 5)
		tree.Put(60, 6)
		for _, s := range []struct {
			seq  iter.Seq2[int, int]
			want []int
		}{{all, []int{20, 60}}, {from, []int{20, 60}}, {between, []int{20}}} {
			for range 2 {
				if keys, _ := collect(s.seq); !slices.Equal(keys, s.want) {
					t.Fatalf("a second iteration yields %v", keys)
				}
			}
		}
	}
}

func TestIteratorsStop(t *testing.T) {
	tree := New[int, int](3)
	for k := range 30 {
		tree.Put(k, k)
	}
	for _, seq := range []iter.Seq2[int, int]{tree.All(), tree.From(0), tree.Between(0, 30)} {
		for stop := range 30 {
			n := 0
			for range seq {
				n++
				if n > stop {
					break
				}
			}
			if n != stop+1 {
				t.Fatalf("stopped after %d keys", n)
			}
		}
	}
}

func TestExamples(t *testing.T) {
	tree := New[int, string](3)
	for k := 1; k <= 4; k++ {
		tree.Put(k, "")
	}
	if tree.Height() != 2 {
		t.Errorf("the height is %d", tree.Height())
	}
	if keys, _ := collect(tree.Between(2, 4)); !slices.Equal(keys, []int{2, 3}) {
		t.Errorf("Between(2, 4) yields %v", keys)
	}
}

func TestFloats(t *testing.T) {
	tree := New[float64, int](3)
	nan := math.NaN()
	for i, k := range []float64{1, nan, math.Inf(-1), -1, nan, math.Inf(1), 0} {
		tree.Put(k, i)
	}
	if v, ok := tree.Get(nan); v != 4 || !ok || tree.Len() != 6 || !tree.Valid() {
		t.Errorf("Get(NaN) = %d, %v", v, ok)
	}
	if k, _, _ := tree.Min(); !math.IsNaN(k) {
		t.Errorf("the least key is %v", k)
	}
	n := 0
	for k := range tree.From(math.Inf(-1)) {
		if math.IsNaN(k) {
			t.Error("NaN is not the least key")
		}
		n++
	}
	if v, ok := tree.Delete(nan); n != 5 || v != 4 || !ok || tree.Len() != 5 || !tree.Valid() {
		t.Errorf("Delete(NaN) = %d, %v", v, ok)
	}
}

func TestValuesAreShared(t *testing.T) {
	tree := New[string, []int](4)
	v := []int{1}
	tree.Put("a", v)
	v[0] = 2
	if w, _ := tree.Get("a"); w[0] != 2 {
		t.Error("the value was copied")
	}
}

func TestValidFindsDamage(t *testing.T) {
	build := func() *Tree[int, int] {
		tree := New[int, int](4)
		for k := range 60 {
			tree.Put(k, k)
		}
		return tree
	}
	for i, damage := range []func(*Tree[int, int]){
		func(x *Tree[int, int]) { x.size++ },
		func(x *Tree[int, int]) { x.root.keys[0] = 1000 },
		func(x *Tree[int, int]) { x.root.children[0].keys[0] = 1000 },
		func(x *Tree[int, int]) { x.root.children[0].children[0].keys[0] = 5 },
		func(x *Tree[int, int]) { x.root.children[1] = x.root.children[1].children[0] },
		func(x *Tree[int, int]) { x.root.children = x.root.children[1:] },
		func(x *Tree[int, int]) { x.root.values = nil },
		func(x *Tree[int, int]) { x.order = 3 },
		func(x *Tree[int, int]) { x.order = 64 },
		func(x *Tree[int, int]) { x.root = &node[int, int]{} },
		func(x *Tree[int, int]) { x.root = nil },
	} {
		tree := build()
		damage(tree)
		if tree.Valid() {
			t.Errorf("damage %d is not found", i)
		}
	}
}
