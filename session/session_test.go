package session

import (
	"math/rand"
	"reflect"
	"slices"
	"testing"

	"disjoint/api"
)

// script returns statements of the kinds of the letters B, C, R and S (SELECT), whose names are their positions.
func script(kinds string) []api.Statement {
	var l []api.Statement
	for i, k := range kinds {
		kind := map[rune]int{'B': api.StmtBegin, 'C': api.StmtCommit, 'R': api.StmtRollback, 'S': api.StmtSelect, 'T': api.StmtRollbackTo, 'D': api.StmtCreate}[k]
		l = append(l, api.Statement{Kind: kind, Name: string(rune('a' + i))})
	}
	return l
}

func TestSplit(t *testing.T) {
	for kinds, want := range map[string][][2]int{
		"":         nil,
		"S":        {{0, 0}},
		"B":        {{0, 0}},
		"C":        {{0, 0}},
		"R":        {{0, 0}},
		"SBSBCRBS": {{0, 0}, {1, 4}, {5, 5}, {6, 7}},
		"BC":       {{0, 1}},
		"BR":       {{0, 1}},
		"BB":       {{0, 1}},
		"BBRC":     {{0, 2}, {3, 3}},
		"BSTSC":    {{0, 4}},
		"BDSRS":    {{0, 3}, {4, 4}},
		"CBCC":     {{0, 0}, {1, 2}, {3, 3}},
		"SSS":      {{0, 0}, {1, 1}, {2, 2}},
		"BSCBSRB":  {{0, 2}, {3, 5}, {6, 6}},
		"BBBB":     {{0, 3}},
	} {
		if got := Split(script(kinds)); !slices.Equal(got, want) {
			t.Errorf("%s: %v instead of %v", kinds, got, want)
		}
	}
}

func TestNew(t *testing.T) {
	for _, number := range []int{-1, api.MaxSessions, api.MaxSessions + 1, -1 << 40} {
		if New(number, script("S")) != nil {
			t.Errorf("a session %d", number)
		}
	}
	for _, number := range []int{0, api.MaxSessions - 1} {
		s := New(number, nil)
		if s == nil || !s.Done() || s.Transaction() != 1+int64(number) {
			t.Fatalf("session %d: %v", number, s)
		}
	}
}

// state is what the methods of a session report.
type state struct {
	next  int
	ok    bool
	name  string
	found bool
	txn   int64
	done  bool
}

func observe(s *Session) state {
	next, ok := s.Next()
	st, found := s.Statement()
	if !found && !reflect.DeepEqual(st, api.Statement{}) {
		return state{}
	}
	return state{next, ok, st.Name, found, s.Transaction(), s.Done()}
}

func TestExample(t *testing.T) {
	s := New(2, script("SBSBCRBS"))
	calls := map[byte]func(){'a': s.Advance, 'r': s.Restart, 'f': s.Finish}
	steps := []struct {
		call byte
		want state
	}{
		{'r', state{0, true, "a", true, 3, false}},
		{'a', state{0, false, "", false, 3, false}},
		{'a', state{0, false, "", false, 3, false}},
		{'r', state{0, true, "a", true, 3, false}},
		{'a', state{0, false, "", false, 3, false}},
		{'f', state{1, true, "b", true, 11, false}},
		{'a', state{2, true, "c", true, 11, false}},
		{'a', state{3, true, "d", true, 11, false}},
		{'r', state{1, true, "b", true, 11, false}},
		{'a', state{2, true, "c", true, 11, false}},
		{'a', state{3, true, "d", true, 11, false}},
		{'a', state{4, true, "e", true, 11, false}},
		{'a', state{4, false, "", false, 11, false}},
		{'f', state{5, true, "f", true, 19, false}},
		{'f', state{6, true, "g", true, 27, false}},
		{'a', state{7, true, "h", true, 27, false}},
		{'a', state{7, false, "", false, 27, false}},
		{'f', state{0, false, "", false, 35, true}},
		{'f', state{0, false, "", false, 35, true}},
		{'a', state{0, false, "", false, 35, true}},
		{'r', state{0, false, "", false, 35, true}},
	}
	for i, step := range steps {
		calls[step.call]()
		if got := observe(s); got != step.want {
			t.Fatalf("step %d: %+v instead of %+v", i, got, step.want)
		}
	}
}

// The statements of the transactions, one after the other, are the script, and the numbers ascend.
func TestRandom(t *testing.T) {
	r := rand.New(rand.NewSource(83))
	numbers := map[int64]int{}
	for range 2000 {
		kinds := ""
		for range r.Intn(12) {
			kinds += string("BBCRSSDT"[r.Intn(8)])
		}
		l := script(kinds)
		next := 0
		for _, p := range Split(l) {
			if p[0] != next || p[1] < p[0] {
				t.Fatalf("%s: %v", kinds, Split(l))
			}
			next = p[1] + 1
		}
		if next != len(l) {
			t.Fatalf("%s: %v", kinds, Split(l))
		}
		number := r.Intn(api.MaxSessions)
		s := New(number, l)
		visited, last := "", int64(0)
		for !s.Done() {
			n := s.Transaction()
			if owner, ok := numbers[n]; n <= last || ok && owner != number {
				t.Fatalf("%s: transaction %d", kinds, n)
			}
			numbers[n] = number
			last = n
			if r.Intn(3) == 0 {
				s.Advance()
				s.Restart()
			}
			for {
				st, ok := s.Statement()
				if !ok {
					break
				}
				visited += st.Name
				s.Advance()
			}
			s.Finish()
		}
		if want := "abcdefghijkl"[:len(l)]; visited != want {
			t.Fatalf("%s: visited %s", kinds, visited)
		}
	}
}
