package textsolver

import (
	"fmt"
	"math/rand"
	"reflect"
	"slices"
	"strings"
	"testing"

	"disjoint/api"
	"disjoint/pattern"
)

func test(v, kind int, negated bool, s string) api.Test {
	return api.Test{Var: v, Kind: kind, Negated: negated, Text: s}
}

// free is a system of n variables of low to high characters.
func free(n, low, high int) Problem {
	return Problem{Min: slices.Repeat([]int{low}, n), Max: slices.Repeat([]int{high}, n)}
}

// between adds the tests that variable v is from low to high.
func (p *Problem) between(v int, low, high string) {
	p.Tests = append(p.Tests, test(v, api.TestLess, true, low), test(v, api.TestAtMost, false, high))
}

func (p *Problem) allDifferent(l ...int) {
	for i, v := range l {
		for _, w := range l[:i] {
			p.Different = append(p.Different, [2]int{v, w})
		}
	}
}

func upTo(n int) []int {
	var l []int
	for i := range n {
		l = append(l, i)
	}
	return l
}

func check(t *testing.T, p Problem, want bool) {
	t.Helper()
	if !Valid(p) {
		t.Fatalf("not valid: %v", p)
	}
	texts, ok := Solve(p)
	if ok != want {
		t.Fatalf("Solve(%v) = %q, %v", p, texts, ok)
	}
	if !ok && texts != nil || ok && !Satisfies(p, texts) {
		t.Fatalf("Solve(%v) = %q", p, texts)
	}
	for v, s := range texts {
		if !slices.Contains(Lengths(p, v), len(s)) {
			t.Fatalf("the lengths of variable %d are %v, but it is %q", v, Lengths(p, v), s)
		}
	}
}

func TestExample(t *testing.T) {
	p := Problem{Min: []int{0, 0}, Max: []int{1, 5}, Tests: []api.Test{test(0, api.TestAtMost, false, "b"), test(0, api.TestLess, true, "a"), test(1, api.TestLike, false, "_"), test(1, api.TestLess, false, "c"), test(1, api.TestLess, true, "b")}}
	check(t, p, true)
	p.Different = [][2]int{{0, 1}}
	if l, ok := Solve(p); !ok || !slices.Equal(l, []string{"a", "b"}) {
		t.Errorf("Solve = %q, %v", l, ok)
	}
	p.Different, p.Same = nil, [][2]int{{1, 0}}
	if l, ok := Solve(p); !ok || !slices.Equal(l, []string{"b", "b"}) {
		t.Errorf("Solve = %q, %v", l, ok)
	}
	q := Problem{Min: []int{0, 0, 0}, Max: []int{1, 5, 16}, Tests: append(p.Tests, test(2, api.TestEqual, true, "a")), Same: [][2]int{{0, 2}}, Different: [][2]int{{1, 2}}}
	check(t, q, false)
}

// naive solves a system whose texts have at most one character by trying all of them.
func naive(p Problem) bool {
	candidates := []string{""}
	for c := ' '; c <= '~'; c++ {
		candidates = append(candidates, string(c))
	}
	texts := make([]string, len(p.Min))
	fits := func(v int) bool {
		s := texts[v]
		if len(s) < p.Min[v] || len(s) > p.Max[v] {
			return false
		}
		for _, x := range p.Tests {
			if x.Var == v && !pattern.Passes(x, s) {
				return false
			}
		}
		for _, q := range p.Same {
			if max(q[0], q[1]) == v && texts[q[0]] != texts[q[1]] {
				return false
			}
		}
		for _, q := range p.Different {
			if max(q[0], q[1]) == v && texts[q[0]] == texts[q[1]] {
				return false
			}
		}
		return true
	}
	var search func(v int) bool
	search = func(v int) bool {
		if v == len(texts) {
			return true
		}
		for _, s := range candidates {
			texts[v] = s
			if fits(v) && search(v+1) {
				return true
			}
		}
		return false
	}
	return search(0)
}

func TestRandom(t *testing.T) {
	r := rand.New(rand.NewSource(34))
	count := map[bool]int{}
	for range 3000 {
		n := r.Intn(6)
		p := free(n, 0, 1)
		for v := range n {
			p.Min[v] = r.Intn(2)
			low := r.Intn(3)
			high := low + r.Intn(3)
			p.between(v, "abcde"[low:low+1], "abcde"[high:high+1])
			if r.Intn(3) == 0 {
				p.Tests = append(p.Tests, test(v, r.Intn(2), r.Intn(2) == 0, []string{"b", "_", "%c", ""}[r.Intn(4)]))
			}
			if r.Intn(8) == 0 {
				p.Max[v] = 0
			}
		}
		for range r.Intn(n*n + 1) {
			pair := [2]int{r.Intn(n), r.Intn(n)}
			if r.Intn(4) == 0 {
				p.Same = append(p.Same, pair)
			} else {
				p.Different = append(p.Different, pair)
			}
		}
		want := naive(p)
		kept := fmt.Sprint(p)
		check(t, p, want)
		if fmt.Sprint(p) != kept {
			t.Fatal("the system is changed")
		}
		count[want]++
		if !want && n > 0 {
			p.between(r.Intn(n), "b", "d")
			p.Same = append(p.Same, [2]int{0, n - 1})
			check(t, p, false)
		}
	}
	if count[true] < 500 || count[false] < 500 {
		t.Errorf("counts: %v", count)
	}
}

func TestLarge(t *testing.T) {
	p := free(128, 3, 3)
	p.allDifferent(upTo(128)...)
	check(t, p, true)
	for v := range 128 {
		p.between(v, "aaa", "aaz")
	}
	check(t, p, false)
	// Texts of one character: 95 of them are different, 96 are not.
	p = free(95, 1, 1)
	p.allDifferent(upTo(95)...)
	check(t, p, true)
	p = free(96, 1, 1)
	p.allDifferent(upTo(96)...)
	check(t, p, false)
	// With the empty text there is one more.
	p.Min[17] = 0
	check(t, p, true)
	p = free(128, 0, 16)
	for v := range 127 {
		p.Same = append(p.Same, [2]int{v + 1, v})
	}
	check(t, p, true)
	p.Different = [][2]int{{3, 90}}
	check(t, p, false)
}

// More words of one length are needed than layer 21 returns at once.
func TestManyWords(t *testing.T) {
	p := free(128, 2, 2)
	p.allDifferent(upTo(128)...)
	for v := range 128 {
		p.between(v, "aa", "bG") // 126 - 97 + 1 = 30 with a, then 40 with b
	}
	words := len(pattern.Words(p.Tests[:2], 2, 1000))
	if words > 100 {
		t.Fatalf("%d words", words)
	}
	check(t, p, false)
	p = free(128, 2, 2)
	p.allDifferent(upTo(128)...)
	for v := range 128 {
		p.between(v, "aa", "b~")
		if n := len(pattern.Words(p.Tests[:2], 2, 1000)); n != 125 {
			t.Fatalf("%d words", n)
		}
	}
	check(t, p, false)
	q := free(125, 2, 2)
	q.allDifferent(upTo(125)...)
	for v := range 125 {
		q.between(v, "aa", "b~")
	}
	check(t, q, true)
}

// Pigeons: unequal lists of words, and graphs that are no cliques.
func TestHardSystems(t *testing.T) {
	for n := 5; n <= 25; n += 5 {
		p := free(n, 1, 1)
		p.allDifferent(upTo(n)...)
		for v := range n {
			p.between(v, string(rune('a'+v%3)), string(rune('a'+n-2)))
		}
		check(t, p, false)
		p.Tests[1].Text = "~"
		check(t, p, true)
	}
	// A cycle of odd length needs three words.
	for _, words := range []string{"b", "c"} {
		p := free(31, 1, 1)
		for v := range 31 {
			p.between(v, "a", words)
			p.Different = append(p.Different, [2]int{v, (v + 1) % 31})
		}
		check(t, p, words == "c")
	}
	// Two systems beside each other: one with many solutions, and one with none.
	p := free(40, 1, 1)
	for v := range 40 {
		p.between(v, "a", "c")
	}
	for v := range 35 {
		p.Different = append(p.Different, [2]int{v, (v + 1) % 36}, [2]int{v, (v + 7) % 36})
	}
	check(t, p, true)
	p.allDifferent(36, 37, 38, 39)
	check(t, p, false)
	// Four words for the squares of a board, of which those in a line are different.
	board := free(25, 1, 1)
	for v := range 25 {
		board.between(v, "a", "e")
		for w := range v {
			if v/5 == w/5 || v%5 == w%5 || v/5-v%5 == w/5-w%5 || v/5+v%5 == w/5+w%5 {
				board.Different = append(board.Different, [2]int{v, w})
			}
		}
	}
	check(t, board, true)
}

func TestLengthsAndTests(t *testing.T) {
	p := Problem{Min: []int{1, 0, 2}, Max: []int{9, 7, 16}, Tests: []api.Test{test(0, api.TestLike, false, "a%b%c"), test(1, api.TestLike, true, "_____"), test(2, api.TestLike, false, "______")}, Same: [][2]int{{0, 1}}}
	for v, want := range [][]int{{3, 4, 6, 7}, {3, 4, 6, 7}, {6}} {
		if got := Lengths(p, v); !slices.Equal(got, want) {
			t.Errorf("Lengths(%d) = %v", v, got)
		}
	}
	if Lengths(p, 3) != nil || Lengths(p, -1) != nil {
		t.Error("Lengths of no variable")
	}
	check(t, p, true)
	p.Min[0] = 8
	if Lengths(p, 1) != nil {
		t.Errorf("Lengths = %v", Lengths(p, 1))
	}
	check(t, p, false)
	if l := Lengths(free(1, 0, 16), 0); len(l) != 17 || l[16] != 16 {
		t.Errorf("Lengths = %v", l)
	}
	check(t, free(1, 5, 4), false)
	check(t, free(0, 0, 0), true)
	check(t, Problem{Min: []int{2}, Max: []int{2}, Different: [][2]int{{0, 0}}}, false)
	check(t, Problem{Min: []int{16}, Max: []int{16}, Tests: []api.Test{test(0, api.TestLike, false, "%a______________"), test(0, api.TestLike, true, " %")}}, true)
}

func TestClasses(t *testing.T) {
	p := free(7, 0, 1)
	p.Same = [][2]int{{5, 3}, {6, 6}, {0, 4}, {3, 1}, {4, 6}}
	if got := Classes(p); !reflect.DeepEqual(got, [][]int{{0, 4, 6}, {1, 3, 5}, {2}}) {
		t.Errorf("Classes = %v", got)
	}
	long := free(128, 0, 0)
	for v := 127; v > 0; v-- {
		long.Same = append(long.Same, [2]int{v - 1, v})
	}
	if got := Classes(long); len(got) != 1 || len(got[0]) != 128 {
		t.Errorf("Classes = %v", got)
	}
	if got := Classes(Problem{}); len(got) != 0 {
		t.Errorf("Classes = %v", got)
	}
}

func TestValid(t *testing.T) {
	good := Problem{Min: []int{0, 16, 3}, Max: []int{16, 0, 5}, Tests: []api.Test{test(2, 3, true, "sixteen letters!")}, Same: [][2]int{{2, 0}}, Different: [][2]int{{1, 1}}}
	if !Valid(good) || !Valid(Problem{}) || !Valid(free(128, 0, 16)) {
		t.Error("a system is not valid")
	}
	for i, p := range []Problem{free(129, 0, 1), {Min: []int{0}}, {Max: []int{0}}, free(1, -1, 3), free(1, 0, 17), free(1, 17, 17), free(1, 0, -1), {Min: []int{0}, Max: []int{1}, Tests: []api.Test{test(1, 0, false, "")}}, {Min: []int{0}, Max: []int{1}, Tests: []api.Test{test(-1, 0, false, "")}}, {Min: []int{0}, Max: []int{1}, Tests: []api.Test{test(0, 4, false, "")}}, {Min: []int{0}, Max: []int{1}, Tests: []api.Test{test(0, 0, false, "\n")}}, {Min: []int{0}, Max: []int{1}, Same: [][2]int{{0, 1}}}, {Min: []int{0}, Max: []int{1}, Same: [][2]int{{-1, 0}}}, {Min: []int{0}, Max: []int{1}, Different: [][2]int{{1, 0}}}, {Different: [][2]int{{0, 0}}}} {
		if Valid(p) {
			t.Errorf("system %d is valid", i)
		}
	}
}

func TestSatisfies(t *testing.T) {
	p := Problem{Min: []int{1, 0, 2}, Max: []int{2, 2, 3}, Tests: []api.Test{test(0, api.TestLike, false, "a%"), test(2, api.TestLess, true, "b")}, Same: [][2]int{{0, 1}}, Different: [][2]int{{1, 2}}}
	for i, c := range []struct {
		l    []string
		want bool
	}{{[]string{"ab", "ab", "bc"}, true}, {[]string{"a", "a", "bcd"}, true}, {[]string{"ab", "ab", "b"}, false}, {[]string{"ab", "ab", "bcde"}, false}, {[]string{"b", "b", "bc"}, false}, {[]string{"a", "ab", "bc"}, false}, {[]string{"ab", "ab", "ab"}, false}, {[]string{"ab", "ab", "aa"}, false}, {[]string{"ab", "ab"}, false}, {nil, false}, {[]string{"ab", "ab", "bc", ""}, false}, {[]string{"a\n", "a\n", "bc"}, false}, {[]string{"a\x80", "a\x80", "bc"}, false}} {
		if Satisfies(p, c.l) != c.want {
			t.Errorf("case %d: Satisfies is %v", i, !c.want)
		}
	}
	if !Satisfies(Problem{}, nil) || Satisfies(free(1, 0, 16), []string{strings.Repeat("x", 17)}) {
		t.Error("Satisfies")
	}
}
