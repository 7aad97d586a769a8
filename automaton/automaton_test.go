package automaton

import (
	"math"
	"math/rand"
	"reflect"
	"slices"
	"strings"
	"testing"

	"disjoint/api"
)

var example = DFA{Accept: []bool{false, false, true}, Edges: [][]Edge{{{'a', 'c', 1}}, {{'d', 'd', 2}}, nil}}

// chain has n states in a line; each edge is for all characters.
func chain(n int, accept func(int) bool) DFA {
	d := DFA{}
	for i := range n {
		d.Accept = append(d.Accept, accept(i))
		var l []Edge
		if i+1 < n {
			l = []Edge{{' ', '~', i + 1}}
		}
		d.Edges = append(d.Edges, l)
	}
	return d
}

// cycle accepts texts whose length is a multiple of n.
func cycle(n int) DFA {
	d := chain(n, func(i int) bool { return i == 0 })
	d.Edges[n-1] = []Edge{{' ', '~', 0}}
	return d
}

// random has edges for a few ranges of characters.
func random(r *rand.Rand, states int) DFA {
	cuts := []byte{' ', 'a', 'b', 'c', '~' + 1}
	d := DFA{}
	for range states {
		d.Accept = append(d.Accept, r.Intn(3) == 0)
		var l []Edge
		for i := 0; i+1 < len(cuts); i++ {
			if r.Intn(3) > 0 {
				l = append(l, Edge{cuts[i], cuts[i+1] - 1, r.Intn(states)})
			}
		}
		d.Edges = append(d.Edges, l)
	}
	return d
}

// texts are all texts of at most n of some characters.
func texts(n int) []string {
	l := []string{""}
	for from := 0; n > 0; n-- {
		to := len(l)
		for _, s := range l[from:to] {
			for _, c := range " `abc~" {
				l = append(l, s+string(c))
			}
		}
		from = to
	}
	return l
}

func copyOf(d DFA) DFA {
	r := DFA{Accept: slices.Clone(d.Accept)}
	for _, l := range d.Edges {
		r.Edges = append(r.Edges, slices.Clone(l))
	}
	return r
}

// spoil changes all memory of an automaton.
func spoil(d DFA) {
	for i := range d.Accept {
		d.Accept[i] = !d.Accept[i]
		for j := range d.Edges[i] {
			d.Edges[i][j].To = -1
		}
	}
}

func TestValid(t *testing.T) {
	edges := func(l ...Edge) DFA { return DFA{Accept: make([]bool, 2), Edges: [][]Edge{nil, l}} }
	for i, d := range []DFA{example, {Accept: []bool{true}, Edges: [][]Edge{nil}}, edges(Edge{' ', '~', 1}), edges(Edge{' ', ' ', 0}, Edge{'!', '!', 1}, Edge{'~', '~', 0}), chain(4096, func(int) bool { return true })} {
		if !Valid(d) {
			t.Errorf("automaton %d is not valid", i)
		}
	}
	for i, d := range []DFA{{}, {Accept: []bool{true}}, {Edges: [][]Edge{nil}}, {Accept: []bool{true}, Edges: [][]Edge{nil, nil}}, {Accept: []bool{true, true}, Edges: [][]Edge{nil}}, edges(Edge{0x1f, 'a', 0}), edges(Edge{'a', 0x7f, 0}), edges(Edge{'b', 'a', 0}), edges(Edge{'a', 'b', 2}), edges(Edge{'a', 'b', -1}), edges(Edge{'a', 'b', 0}, Edge{'b', 'c', 0}), edges(Edge{'c', 'd', 0}, Edge{'a', 'b', 0}), edges(Edge{'a', 255, 0}), edges(Edge{0, 0, 0}), chain(4097, func(int) bool { return true }), edges(Edge{'a', '~', 0}, Edge{'~', '~', 0})} {
		if Valid(d) {
			t.Errorf("automaton %d is valid", i)
		}
	}
}

func TestExample(t *testing.T) {
	for s, want := range map[string]bool{"ad": true, "bd": true, "cd": true, "a": false, "": false, "add": false, "dd": false, "aD": false, "a\x80": false, "\x00d": false} {
		if Accepts(example, s) != want {
			t.Errorf("Accepts(%q) = %v", s, !want)
		}
	}
	if s, ok := Shortest(example); s != "ad" || !ok {
		t.Errorf("Shortest = %q, %v", s, ok)
	}
	if l := Words(example, 2, 2); !slices.Equal(l, []string{"ad", "bd"}) {
		t.Errorf("Words = %q", l)
	}
	nothing := chain(5, func(int) bool { return false })
	m, e := Minimize(nothing)
	if e != api.OK || len(m.Accept) != 1 || m.Accept[0] || len(m.Edges) != 1 || len(m.Edges[0]) != 0 {
		t.Errorf("Minimize of nothing: %v, %d", m, e)
	}
	if s, ok := Shortest(nothing); s != "" || ok {
		t.Errorf("Shortest of nothing: %q", s)
	}
}

func TestSetAlgebra(t *testing.T) {
	r := rand.New(rand.NewSource(27))
	all := texts(4)
	for range 300 {
		a, b := random(r, 1+r.Intn(5)), random(r, 1+r.Intn(5))
		keptA, keptB := copyOf(a), copyOf(b)
		both, e1 := And(a, b)
		not, e2 := Not(a)
		m, e3 := Minimize(a)
		if e1 != api.OK || e2 != api.OK || e3 != api.OK || !Valid(both) || !Valid(not) || !Valid(m) {
			t.Fatalf("errors %d, %d, %d", e1, e2, e3)
		}
		equal := true
		for _, s := range all {
			x, y := Accepts(a, s), Accepts(b, s)
			equal = equal && x == y
			if Accepts(both, s) != (x && y) || Accepts(not, s) == x || Accepts(m, s) != x {
				t.Fatalf("%q: %v, %v", s, a, b)
			}
		}
		// Automata with at most five states are distinguished by texts of at most eight characters; those of four suffice here nearly always.
		if Equivalent(a, b) && !equal || !Equivalent(a, m) || !Equivalent(m, a) || Equivalent(a, not) {
			t.Fatalf("Equivalent: %v, %v", a, b)
		}
		notB, _ := Not(b)
		neither, _ := And(not, notB)
		or, _ := Not(neither)
		again, _ := Not(not)
		absorbed, _ := And(or, a)
		swapped, _ := And(b, a)
		if !Equivalent(again, a) || !Equivalent(absorbed, a) || !Equivalent(swapped, both) {
			t.Fatalf("the laws of set algebra: %v, %v", a, b)
		}
		spoil(both)
		spoil(not)
		spoil(m)
		if !reflect.DeepEqual(a, keptA) || !reflect.DeepEqual(b, keptB) {
			t.Fatal("an argument is changed, or shares memory with a result")
		}
	}
}

// classes returns the number of states of the minimal automaton: of the states that are reached and lead to acceptance, those that some text distinguishes.
func classes(d DFA) int {
	n := len(d.Accept)
	step := func(s int, c byte) int {
		if s == n {
			return n
		}
		if to := d.step(s, c); to >= 0 {
			return to
		}
		return n
	}
	accept := append(slices.Clone(d.Accept), false)
	differ := make([][]bool, n+1)
	for i := range differ {
		differ[i] = make([]bool, n+1)
		for j := range differ {
			differ[i][j] = accept[i] != accept[j]
		}
	}
	for again := true; again; {
		again = false
		for i := range differ {
			for j := range differ {
				for c := byte(' '); c <= '~' && !differ[i][j]; c++ {
					if differ[step(i, c)][step(j, c)] {
						differ[i][j], again = true, true
					}
				}
			}
		}
	}
	reached := []int{0}
	for i := 0; i < len(reached); i++ {
		for _, e := range d.Edges[reached[i]] {
			if !slices.Contains(reached, e.To) {
				reached = append(reached, e.To)
			}
		}
	}
	var distinct []int
	for _, s := range reached {
		if differ[s][n] && !slices.ContainsFunc(distinct, func(x int) bool { return !differ[s][x] }) {
			distinct = append(distinct, s)
		}
	}
	return max(len(distinct), 1)
}

func TestMinimal(t *testing.T) {
	r := rand.New(rand.NewSource(28))
	for range 300 {
		a := random(r, 1+r.Intn(8))
		// A copy of an automaton whose states have other numbers, some of them twice.
		n := len(a.Accept)
		b := DFA{Accept: make([]bool, 2*n), Edges: make([][]Edge, 2*n)}
		order := append([]int{0}, r.Perm(2*n-1)...)
		for i := range order[1:] {
			order[i+1]++
		}
		for s := range 2 * n {
			b.Accept[order[s]] = a.Accept[s%n]
			for _, e := range a.Edges[s%n] {
				e.To = order[e.To+n*r.Intn(2)]
				b.Edges[order[s]] = append(b.Edges[order[s]], e)
			}
		}
		m, _ := Minimize(a)
		k, _ := Minimize(b)
		if len(m.Accept) != classes(a) || len(k.Accept) != len(m.Accept) || !Equivalent(a, b) {
			t.Fatalf("%v: %d and %d states, want %d", a, len(m.Accept), len(k.Accept), classes(a))
		}
		s, ok := Shortest(a)
		u, ok2 := Shortest(b)
		if s != u || ok != ok2 || !slices.Equal(Words(a, 3, 50), Words(b, 3, 50)) {
			t.Fatal("equivalent automata have different texts")
		}
	}
}

func TestShortestAndWords(t *testing.T) {
	r := rand.New(rand.NewSource(29))
	for range 200 {
		d := random(r, 1+r.Intn(5))
		first, ok := Shortest(d)
		for length := range 3 {
			var want []string
			for _, s := range allTexts(length) {
				if Accepts(d, s) {
					want = append(want, s)
				}
			}
			if len(want) > 0 && (!ok || len(first) > length || len(first) == length && first != want[0]) {
				t.Fatalf("Shortest = %q, %v, but %q is accepted", first, ok, want[0])
			}
			if ok && len(first) == length && len(want) == 0 {
				t.Fatalf("Shortest = %q", first)
			}
			for _, most := range []int{0, 1, 2, 100, 1000} {
				got := Words(d, length, most)
				if !slices.Equal(got, want[:min(most, len(want))]) {
					t.Fatalf("Words(%d, %d) = %q", length, most, got)
				}
			}
		}
	}
	if Words(example, -1, 5) != nil || Words(example, 2, -1) != nil || Words(example, math.MinInt, 5) != nil {
		t.Error("negative arguments")
	}
	if l := Words(chain(1, func(int) bool { return true }), 0, 5); !slices.Equal(l, []string{""}) {
		t.Errorf("the empty word: %q", l)
	}
	if l := Words(AtMost(16), 16, 1000); len(l) != 1000 || l[95] != strings.Repeat(" ", 14)+"! " {
		t.Errorf("%d long words", len(l))
	}
	s, ok := Shortest(chain(4096, func(i int) bool { return i == 4095 }))
	if s != strings.Repeat(" ", 4095) || !ok {
		t.Error("a long text")
	}
	two := DFA{Accept: []bool{false, false, false, true}, Edges: [][]Edge{{{'a', 'a', 1}, {'b', 'b', 2}}, {{'z', 'z', 3}}, {{'c', 'c', 3}}, nil}}
	if s, _ := Shortest(two); s != "az" {
		t.Errorf("Shortest = %q", s)
	}
}

func allTexts(length int) []string {
	l := []string{""}
	for range length {
		var longer []string
		for _, s := range l {
			for c := byte(' '); c <= '~'; c++ {
				longer = append(longer, s+string(rune(c)))
			}
		}
		l = longer
	}
	return l
}

func TestAtMost(t *testing.T) {
	for n, want := range map[int]int{-5: 0, 0: 0, 1: 1, 3: 3, 4095: 4095, 4096: 4095, math.MaxInt: 4095, math.MinInt: 0} {
		d := AtMost(n)
		if !Valid(d) || !Accepts(d, "") || !Accepts(d, strings.Repeat("~", want)) || !Accepts(d, strings.Repeat(" ", want)) || Accepts(d, strings.Repeat(" ", want+1)) || want > 0 && Accepts(d, "\x1f") {
			t.Errorf("AtMost(%d)", n)
		}
	}
}

func TestLimits(t *testing.T) {
	// The lengths modulo 64 and 63 are 4032 pairs, those modulo 64 and 65 are 4160.
	if d, e := And(cycle(64), cycle(63)); e != api.OK || len(d.Accept) != 4032 {
		t.Errorf("And: %d", e)
	}
	if d, e := And(cycle(64), cycle(65)); e != api.ErrTooLarge || d.Accept != nil || d.Edges != nil {
		t.Errorf("And: %d", e)
	}
	if d, e := And(AtMost(4095), chain(4096, func(i int) bool { return i == 7 })); e != api.OK || !Valid(d) || !Equivalent(d, chain(8, func(i int) bool { return i == 7 })) {
		t.Errorf("And: %d", e)
	}
	if d, e := And(cycle(4096), cycle(4096)); e != api.OK || !Equivalent(d, cycle(4096)) {
		t.Errorf("And: %d", e)
	}
	if d, e := Not(AtMost(4095)); e != api.ErrTooLarge || d.Accept != nil || d.Edges != nil {
		t.Errorf("Not: %d", e)
	}
	if d, e := Not(AtMost(4094)); e != api.OK || len(d.Accept) != 4096 || !Accepts(d, strings.Repeat("a", 4095)) || Accepts(d, "a") {
		t.Errorf("Not: %d", e)
	}
	if d, e := Not(cycle(4096)); e != api.OK || len(d.Accept) != 4096 || Accepts(d, "") || !Accepts(d, "a") {
		t.Errorf("Not: %d", e)
	}
	// An unreachable state without an edge for some character counts, too.
	d := cycle(4096)
	d.Edges[0] = []Edge{{' ', '~', 0}}
	d.Edges[9] = []Edge{{' ', '}', 0}}
	if _, e := Not(d); e != api.ErrTooLarge {
		t.Errorf("Not: %d", e)
	}
}

func TestLargeMinimize(t *testing.T) {
	for _, d := range []DFA{AtMost(4095), cycle(4096), chain(4096, func(i int) bool { return i%2 == 1 })} {
		m, e := Minimize(d)
		if e != api.OK || len(m.Accept) != 4096 || !Valid(m) || !Equivalent(m, d) {
			t.Errorf("Minimize: %d states, %d", len(m.Accept), e)
		}
	}
	r := rand.New(rand.NewSource(30))
	d := random(r, 4096)
	m, _ := Minimize(d)
	if !Equivalent(m, d) || Equivalent(cycle(4096), cycle(4095)) || Equivalent(AtMost(4095), AtMost(4094)) {
		t.Error("large automata")
	}
	folded := cycle(4096)
	for i := range folded.Accept {
		folded.Accept[i] = i%16 == 0
	}
	if m, _ := Minimize(folded); len(m.Accept) != 16 {
		t.Errorf("%d states", len(m.Accept))
	}
}
