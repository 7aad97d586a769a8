package pattern

import (
	"math/rand"
	"slices"
	"strings"
	"testing"

	"disjoint/api"
	"disjoint/automaton"
)

// like is the definition, read from left to right.
func like(text, pattern string) bool {
	switch {
	case pattern == "":
		return text == ""
	case pattern[0] == '%':
		return like(text, pattern[1:]) || text != "" && like(text[1:], pattern)
	}
	return text != "" && (pattern[0] == '_' || pattern[0] == text[0]) && like(text[1:], pattern[1:])
}

func passes(t api.Test, s string) bool {
	return []bool{s == t.Text, t.Kind == api.TestLike && like(s, t.Text), s < t.Text, s <= t.Text}[t.Kind] != t.Negated
}

func passAll(l []api.Test, s string) bool {
	return !slices.ContainsFunc(l, func(t api.Test) bool { return !passes(t, s) })
}

// texts are all texts of at most n of some characters.
func texts(n int, characters string) []string {
	l := []string{""}
	for from := 0; n > 0; n-- {
		to := len(l)
		for _, s := range l[from:to] {
			for _, c := range characters {
				l = append(l, s+string(c))
			}
		}
		from = to
	}
	return l
}

func randomTest(r *rand.Rand, most int) api.Test {
	kind := r.Intn(4)
	characters := " ab%_~"
	if kind == api.TestLike && r.Intn(4) > 0 {
		characters = "ab%_%"
	}
	var b strings.Builder
	for range r.Intn(most + 1) {
		b.WriteByte(characters[r.Intn(len(characters))])
	}
	return api.Test{Var: r.Intn(9) - 3, Kind: kind, Negated: r.Intn(2) == 0, Text: b.String()}
}

func TestPassesAndAutomaton(t *testing.T) {
	r := rand.New(rand.NewSource(31))
	all := texts(5, "ab %z")
	for range 500 {
		x := randomTest(r, 5)
		d, e := Automaton(x)
		if e != api.OK || !automaton.Valid(d) {
			t.Fatalf("Automaton(%v): %d", x, e)
		}
		opposite := x
		opposite.Negated = !x.Negated
		for _, s := range all {
			want := passes(x, s)
			if Passes(x, s) != want || Passes(opposite, s) == want {
				t.Fatalf("Passes(%v, %q) = %v", x, s, !want)
			}
			if automaton.Accepts(d, s) != want {
				t.Fatalf("the automaton of %v and %q", x, s)
			}
		}
	}
}

func TestLongTexts(t *testing.T) {
	for _, c := range []struct {
		kind int
		text string
		s    string
		want bool
	}{
		{api.TestLike, "%", strings.Repeat("x", 100), true}, {api.TestLike, "________________", strings.Repeat("x", 16), true}, {api.TestLike, "________________", strings.Repeat("x", 17), false}, {api.TestLike, "a______________%", "a" + strings.Repeat("x", 40), true}, {api.TestLike, "%______________a", strings.Repeat("x", 40) + "a", true}, {api.TestLike, "sm%", "smith", true}, {api.TestLike, "_mi%h", "smith", true}, {api.TestLike, "sm_", "smith", false},
		{api.TestEqual, "sixteen letters!", "sixteen letters!", true}, {api.TestLess, "sixteen letters!", "sixteen letters!!", false}, {api.TestLess, "sixteen letters!", "sixteen letters ~", true}, {api.TestAtMost, "sixteen letters!", "sixteen letters!", true}, {api.TestLess, "sixteen letters!", "sixteen letters!", false}, {api.TestLess, "", "", false}, {api.TestAtMost, "", "", true}, {api.TestAtMost, "", " ", false},
	} {
		if Passes(api.Test{Kind: c.kind, Text: c.text}, c.s) != c.want {
			t.Errorf("test %d %q of %q", c.kind, c.text, c.s)
		}
		d, _ := Automaton(api.Test{Kind: c.kind, Text: c.text, Negated: true})
		if automaton.Accepts(d, c.s) == c.want {
			t.Errorf("the automaton of the negated test %d %q of %q", c.kind, c.text, c.s)
		}
	}
}

// positionSets counts the position sets of a pattern by following all texts.
func positionSets(p string) int {
	next := func(set map[int]bool, c byte) map[int]bool {
		r := map[int]bool{}
		for i := range set {
			if i < len(p) && p[i] != '%' && (p[i] == '_' || p[i] == c) {
				r[i+1] = true
			}
			if i > 0 && p[i-1] == '%' {
				r[i] = true
			}
		}
		return r
	}
	name := func(set map[int]bool) (uint32, map[int]bool) {
		var n uint32
		for i := 0; i <= len(p); i++ {
			if set[i] {
				n |= 1 << i
				if i < len(p) && p[i] == '%' {
					set[i+1] = true
				}
			}
		}
		return n, set
	}
	_, first := name(map[int]bool{0: true})
	n, _ := name(first)
	seen := map[uint32]bool{n: true}
	work := []map[int]bool{first}
	for len(work) > 0 && len(seen) < 6000 {
		set := work[0]
		work = work[1:]
		for _, c := range []byte("abc!") {
			n, to := name(next(set, c))
			if !seen[n] {
				seen[n] = true
				work = append(work, to)
			}
		}
	}
	return len(seen)
}

func TestTooLarge(t *testing.T) {
	r := rand.New(rand.NewSource(32))
	patterns := []string{"%a__________", "%a___________", "%a____________", "%a______________", "%a%_____________", "a_______________", "%ab_____________", "%%%%%%%%%%%%%%%%", "%a______b_______", "%a_%_______c____", "%_a_____________", "%abcabcabcabcab", "%a___________%", "%a__________%", "%b_a___________"}
	for range 40 {
		b := []byte("%a______________")
		for range 3 {
			b[2+r.Intn(14)] = "ab_%"[r.Intn(4)]
		}
		patterns = append(patterns, string(b[:10+r.Intn(7)]))
	}
	errors := 0
	for _, p := range patterns {
		want := api.OK
		if positionSets(p) > 4096 {
			want = api.ErrTooLarge
			errors++
		}
		for _, negated := range []bool{false, true} {
			d, e := Automaton(api.Test{Kind: api.TestLike, Negated: negated, Text: p})
			if e != want || e == api.OK && !automaton.Valid(d) || e != api.OK && d.Accept != nil {
				t.Errorf("%s with %d position sets: %d", p, positionSets(p), e)
			}
		}
		if _, e := Automaton(api.Test{Kind: api.TestAtMost, Text: p}); e != api.OK {
			t.Errorf("an order test with the text %s: %d", p, e)
		}
	}
	if errors < 3 || errors > len(patterns)-3 {
		t.Errorf("%d of %d patterns are too large", errors, len(patterns))
	}
}

func TestValid(t *testing.T) {
	for _, x := range []api.Test{{}, {Kind: api.TestLike, Text: "%_"}, {Kind: api.TestAtMost, Negated: true, Text: "sixteen letters!"}, {Var: -7, Kind: api.TestLess, Text: " ~"}} {
		if !Valid(x) {
			t.Errorf("%v is not valid", x)
		}
	}
	for _, x := range []api.Test{{Kind: -1}, {Kind: 4}, {Text: "seventeen letters"}, {Text: "\x1f"}, {Text: "a\x7f"}, {Text: "é"}, {Text: "\n"}} {
		if Valid(x) {
			t.Errorf("%v is valid", x)
		}
	}
}

// naive returns the words by the automata of the tests.
func naive(t *testing.T, l []api.Test, length, most int) []string {
	d := automaton.AtMost(16)
	for _, x := range l {
		a, e1 := Automaton(x)
		both, e2 := automaton.And(d, a)
		if e1 != api.OK || e2 != api.OK {
			t.Fatal("too large")
		}
		d = both
	}
	return automaton.Words(d, length, most)
}

func TestWords(t *testing.T) {
	r := rand.New(rand.NewSource(33))
	short := texts(2, printable())
	for range 300 {
		var l []api.Test
		for range r.Intn(4) {
			l = append(l, randomTest(r, 4))
		}
		kept := slices.Clone(l)
		for length := range 3 {
			var want []string
			for _, s := range short {
				if len(s) == length && passAll(l, s) {
					want = append(want, s)
				}
			}
			slices.Sort(want)
			for _, most := range []int{0, 1, 7, 100} {
				if got := Words(l, length, most); !slices.Equal(got, want[:min(most, len(want))]) {
					t.Fatalf("Words(%v, %d, %d) = %q", l, length, most, got)
				}
			}
		}
		for length := 3; length < 7; length++ {
			if got, want := Words(l, length, 30), naive(t, l, length, 30); !slices.Equal(got, want) {
				t.Fatalf("Words(%v, %d) = %q, want %q", l, length, got, want)
			}
		}
		low := r.Intn(4) - 1
		high := low + r.Intn(5) - 1
		checkShortest(t, l, low, high)
		if !slices.Equal(l, kept) {
			t.Fatal("the tests are changed")
		}
	}
}

func printable() string {
	var b strings.Builder
	for c := byte(' '); c <= '~'; c++ {
		b.WriteByte(c)
	}
	return b.String()
}

func checkShortest(t *testing.T, l []api.Test, low, high int) {
	t.Helper()
	got, ok := Shortest(l, low, high)
	for n := max(low, 0); n <= high; n++ {
		if w := naive(t, l, n, 1); len(w) > 0 {
			if !ok || got != w[0] {
				t.Fatalf("Shortest(%v, %d, %d) = %q, %v, want %q", l, low, high, got, ok, w[0])
			}
			return
		}
	}
	if ok || got != "" {
		t.Fatalf("Shortest(%v, %d, %d) = %q", l, low, high, got)
	}
}

func TestWordsArguments(t *testing.T) {
	if Words(nil, -1, 5) != nil || Words(nil, 2, -1) != nil || Words(nil, 2, 0) != nil {
		t.Error("negative arguments")
	}
	if l := Words(nil, 0, 5); !slices.Equal(l, []string{""}) {
		t.Errorf("Words(0) = %q", l)
	}
	if l := Words(nil, 16, 100); len(l) != 100 || l[99] != strings.Repeat(" ", 14)+"!$" {
		t.Errorf("Words(16) = %q", l)
	}
	if s, ok := Shortest(nil, 3, 16); s != "   " || !ok {
		t.Errorf("Shortest = %q", s)
	}
	if s, ok := Shortest([]api.Test{{Kind: api.TestLike, Text: "%b%"}, {Kind: api.TestLess, Text: "ab"}}, 0, 16); s != " b" || !ok {
		t.Errorf("Shortest = %q", s)
	}
}

// Tests whose automata have too many states, separately or together, are decided as well.
func TestManyStates(t *testing.T) {
	like := func(p string) api.Test { return api.Test{Kind: api.TestLike, Text: p} }
	not := func(p string) api.Test { return api.Test{Kind: api.TestLike, Negated: true, Text: p} }
	if l := Words([]api.Test{like("%a______________"), like("%b_____________%")}, 16, 2); !slices.Equal(l, []string{" ab" + strings.Repeat(" ", 13), " ab" + strings.Repeat(" ", 12) + "!"}) {
		t.Errorf("two patterns: %q", l)
	}
	var all, none []api.Test
	for c := byte('a'); c < 'a'+17; c++ {
		all = append(all, like("%"+string(rune(c))+"%"))
		none = append(none, not("%"+string(rune(c))+"____________"))
	}
	if l := Words(all[:16], 16, 2); !slices.Equal(l, []string{"abcdefghijklmnop", "abcdefghijklmnpo"}) {
		t.Errorf("sixteen letters: %q", l)
	}
	if s, ok := Shortest(all, 0, 16); ok {
		t.Errorf("seventeen letters: %q", s)
	}
	if s, ok := Shortest(none, 14, 16); s != strings.Repeat(" ", 14) || !ok {
		t.Errorf("negated patterns: %q", s)
	}
	if s, ok := Shortest([]api.Test{like("%a______________"), not("%a%")}, 0, 16); ok {
		t.Errorf("a contradiction: %q", s)
	}
	mixed := []api.Test{like("%a_______%"), like("%b_____%"), not("%ab%"), not("%a_b%"), not("%a__b%"), not("%a%a%")}
	s, ok := Shortest(mixed, 0, 16)
	if !ok || len(s) != 9 {
		t.Errorf("Shortest = %q, %v", s, ok)
	}
	checkAll(t, s, mixed)
}

func checkAll(t *testing.T, s string, l []api.Test) {
	t.Helper()
	for _, x := range l {
		if !passes(x, s) {
			t.Errorf("%q does not pass %v", s, x)
		}
	}
}

func TestPrefixAndLengths(t *testing.T) {
	for _, c := range []struct {
		pattern, prefix string
		n               int
		longer          bool
	}{{"", "", 0, false}, {"abc", "abc", 3, false}, {"a%b_", "a", 3, true}, {"_a", "", 2, false}, {"%", "", 0, true}, {"%%a%", "", 1, true}, {"ab_", "ab", 3, false}, {"sixteen letters%", "sixteen letters", 15, true}} {
		n, longer := Lengths(c.pattern)
		if Prefix(c.pattern) != c.prefix || n != c.n || longer != c.longer {
			t.Errorf("%q: prefix %q, %d, %v", c.pattern, Prefix(c.pattern), n, longer)
		}
	}
	for _, p := range texts(3, "a_%") {
		n, longer := Lengths(p)
		for _, s := range texts(4, "ab") {
			if like(s, p) && (!strings.HasPrefix(s, Prefix(p)) || len(s) < n || !longer && len(s) > n) {
				t.Errorf("%q matches %q", s, p)
			}
		}
	}
}
