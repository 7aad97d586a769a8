package bag

import (
	"math/rand"
	"testing"

	"disjoint/api"
	"disjoint/value"
)

func row(l ...int64) api.Row {
	var r api.Row
	for _, n := range l {
		r = append(r, value.Int(n))
	}
	return r
}

// rowsOf are rows that resemble each other, some of them not valid.
var rowsOf = []api.Row{nil, {{}}, {{}, {}}, row(1), row(1, 1), row(11), row(-1), {value.Text("")}, {value.Text("1")}, {value.Text("a")}, {value.Text("a"), value.Text("b")}, {value.Text("ab")}, {value.Text("ab"), value.Text("")}, {value.Text("a2 0 1 b")}, {{Kind: 1, Int: 1, Text: "a"}}, {{Kind: 7}}, {{Kind: -1, Int: 3}}, {{Kind: 1, Int: 12}}, {{Kind: 11, Int: 2}}}

// list is a naive bag.
type list []api.Row

func (l list) count(r api.Row) int {
	n := 0
	for _, x := range l {
		if value.CompareRows(x, r) == 0 {
			n++
		}
	}
	return n
}

func (l list) without(r api.Row) list {
	for i, x := range l {
		if value.CompareRows(x, r) == 0 {
			return append(append(list(nil), l[:i]...), l[i+1:]...)
		}
	}
	return l
}

func check(t *testing.T, b *Bag, l list) {
	t.Helper()
	if b.Len() != len(l) {
		t.Fatalf("Len() = %d, want %d", b.Len(), len(l))
	}
	rows := b.Rows()
	if len(rows) != len(l) {
		t.Fatalf("there are %d rows, want %d", len(rows), len(l))
	}
	for i, r := range rows {
		if list(rows).count(r) != l.count(r) {
			t.Fatalf("the row %v occurs %d times", r, list(rows).count(r))
		}
		if i > 0 && value.CompareRows(rows[i-1], r) > 0 {
			t.Fatal("the rows do not ascend")
		}
	}
	for _, r := range rowsOf {
		if b.Count(r) != l.count(r) {
			t.Fatalf("Count(%v) = %d, want %d", r, b.Count(r), l.count(r))
		}
	}
}

func TestRandom(t *testing.T) {
	r := rand.New(rand.NewSource(12))
	b := New()
	var l list
	for range 4000 {
		x := rowsOf[r.Intn(len(rowsOf))]
		if r.Intn(2) == 0 {
			b.Add(x)
			l = append(l, x)
		} else {
			if b.Remove(x) != (l.count(x) > 0) {
				t.Fatalf("Remove(%v)", x)
			}
			l = l.without(x)
		}
		check(t, b, l)
	}
}

func randomBag(r *rand.Rand) (*Bag, list) {
	var l list
	for range r.Intn(12) {
		l = append(l, rowsOf[r.Intn(5)])
	}
	return New(l...), l
}

func TestTwoBags(t *testing.T) {
	r := rand.New(rand.NewSource(13))
	for range 2000 {
		b, l := randomBag(r)
		c, m := randomBag(r)
		equal := len(l) == len(m)
		var diff list
		for _, x := range rowsOf {
			equal = equal && l.count(x) == m.count(x)
			for range max(0, l.count(x)-m.count(x)) {
				diff = append(diff, x)
			}
		}
		if b.Equal(c) != equal || c.Equal(b) != equal {
			t.Fatalf("Equal of %v and %v", l, m)
		}
		d, e := b.Minus(c), c.Minus(b)
		check(t, d, diff)
		check(t, b, l)
		check(t, c, m)
		for _, x := range d.Rows() {
			if e.Count(x) != 0 {
				t.Fatalf("both differences contain %v", x)
			}
			b.Remove(x)
		}
		for _, x := range e.Rows() {
			c.Remove(x)
		}
		if !b.Equal(c) {
			t.Fatal("the common parts differ")
		}
	}
}

func TestOrderDoesNotMatter(t *testing.T) {
	r := rand.New(rand.NewSource(14))
	for range 200 {
		_, l := randomBag(r)
		b, c := New(), New()
		for _, x := range l {
			b.Add(x)
		}
		for _, i := range r.Perm(len(l)) {
			c.Add(row(99))
			c.Add(l[i])
			c.Remove(row(99))
		}
		if !b.Equal(c) {
			t.Fatal("the order matters")
		}
	}
}

func TestNoSharing(t *testing.T) {
	r := row(1, 2)
	b := New(r)
	r[0] = value.Int(9)
	b.Add(row(1, 2))
	rows := b.Rows()
	rows[0][0] = value.Int(9)
	c := b.Copy()
	d := b.Minus(New())
	c.Rows()[0][0] = value.Int(9)
	c.Add(row(3))
	d.Remove(row(1, 2))
	if b.Count(row(1, 2)) != 2 || b.Len() != 2 || c.Len() != 3 || d.Len() != 1 || !c.Minus(New(row(3))).Equal(b) {
		t.Error("bags share memory")
	}
	b.Remove(row(1, 2))
	if c.Count(row(1, 2)) != 2 {
		t.Error("a copy changes with its original")
	}
}

func TestExample(t *testing.T) {
	b := New(row(2), row(1), row(2))
	check(t, b, list{row(1), row(2), row(2)})
	check(t, b.Minus(New(row(2))), list{row(1), row(2)})
	if New().Equal(New(nil)) || !New().Equal(New()) || New().Remove(nil) {
		t.Error("empty bags")
	}
}
