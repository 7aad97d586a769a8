package boxindex

import (
	"math"
	"math/rand"
	"slices"
	"testing"

	"disjoint/box"
)

func ints(table int, low, high int64) box.Box {
	return box.Box{Table: table, Sides: []box.Side{{Other: true, Low: low, High: high}}}
}

func TestExample(t *testing.T) {
	x := New()
	x.Put(1, ints(0, 0, 5))
	x.Put(2, ints(0, 6, 9))
	if got := x.Candidates(ints(0, 4, 6)); !slices.Equal(got, []int64{1, 2}) {
		t.Errorf("Candidates = %v", got)
	}
	if got := x.Candidates(ints(0, 7, 7)); !slices.Equal(got, []int64{2}) {
		t.Errorf("Candidates = %v", got)
	}
	if got := x.Candidates(ints(1, 7, 7)); len(got) != 0 || x.Len() != 2 {
		t.Errorf("Candidates of another table = %v", got)
	}
}

func random(r *rand.Rand) box.Box {
	b := box.Box{Table: r.Intn(3)}
	for range r.Intn(3) {
		low := r.Int63n(10)
		b.Sides = append(b.Sides, box.Side{Null: r.Intn(4) == 0, Other: true, Low: low, High: low + r.Int63n(4), From: "a", To: string(rune('a' + r.Intn(3)))})
	}
	return b
}

func TestRandom(t *testing.T) {
	r := rand.New(rand.NewSource(60))
	x := New()
	naive := map[int64]box.Box{}
	numbers := []int64{0, -1, 5, 7, 100, math.MaxInt64, math.MinInt64, 42, 43, 44}
	for range 5000 {
		id := numbers[r.Intn(len(numbers))]
		if r.Intn(3) > 0 {
			b := random(r)
			x.Put(id, b)
			naive[id] = b
		} else {
			_, want := naive[id]
			if x.Delete(id) != want {
				t.Fatalf("Delete(%d) is %v", id, !want)
			}
			delete(naive, id)
		}
		if x.Len() != len(naive) {
			t.Fatalf("Len() = %d", x.Len())
		}
		b := random(r)
		var want []int64
		for id, c := range naive {
			if box.Meet(b, c) {
				want = append(want, id)
			}
		}
		slices.Sort(want)
		if got := x.Candidates(b); !slices.Equal(got, want) {
			t.Fatalf("Candidates = %v, want %v", got, want)
		}
	}
}

func TestOrderDoesNotMatter(t *testing.T) {
	x, y := New(), New()
	for i := range int64(20) {
		x.Put(i, ints(0, i, i+3))
		y.Put(19-i, ints(1, 0, 0))
	}
	for i := range int64(20) {
		y.Put(i*7%20, ints(0, i*7%20, i*7%20+3))
		y.Put(100+i, ints(0, 0, 99))
	}
	for i := range int64(20) {
		y.Delete(119 - i)
	}
	for n := int64(-2); n < 26; n++ {
		if !slices.Equal(x.Candidates(ints(0, n, n)), y.Candidates(ints(0, n, n))) {
			t.Fatalf("the candidates for %d differ", n)
		}
	}
}

func TestReplace(t *testing.T) {
	x := New()
	x.Put(3, ints(0, 0, 5))
	x.Put(3, ints(1, 6, 9))
	if x.Len() != 1 || len(x.Candidates(ints(0, 0, 9))) != 0 || !slices.Equal(x.Candidates(ints(1, 0, 9)), []int64{3}) {
		t.Error("the box was not replaced")
	}
	x.Put(4, box.Box{Table: 1})
	if x.Len() != 2 || len(x.Candidates(box.Box{Table: 1})) != 0 || !x.Delete(4) || x.Delete(4) || x.Len() != 1 {
		t.Error("an empty box")
	}
}

func TestNoSharing(t *testing.T) {
	x := New()
	b := ints(0, 0, 5)
	x.Put(1, b)
	b.Sides[0].Low, b.Sides[0].High = 50, 60
	x.Candidates(ints(0, 1, 1))[0] = 9
	if !slices.Equal(x.Candidates(ints(0, 1, 1)), []int64{1}) {
		t.Error("the index shares memory with its argument or result")
	}
}
