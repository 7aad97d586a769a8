package schedule

import (
	"reflect"
	"strings"
	"testing"

	"disjoint/api"
)

func step(session int) api.Action { return api.Action{Kind: api.ActStep, Session: session} }

func crash(writes, bytes int) api.Action {
	return api.Action{Kind: api.ActCrash, Writes: writes, Bytes: bytes}
}

var (
	checkpoint = api.Action{Kind: api.ActCheckpoint}
	recover1   = api.Action{Kind: api.ActRecover}
)

func TestRoundRobin(t *testing.T) {
	if got := RoundRobin(2, 2); !reflect.DeepEqual(got, []api.Action{step(0), step(1), step(0), step(1)}) {
		t.Errorf("%v", got)
	}
	for _, c := range []struct{ sessions, rounds, perRound, count int }{
		{3, 5, 3, 15}, {1, 1, 1, 1}, {0, 5, 1, 0}, {-1, 5, 1, 0}, {5, 0, 5, 0}, {5, -3, 5, 0}, {8, 2, 8, 16}, {9, 2, 8, 16}, {1000, 2, 8, 16}, {1, 10000, 1, 10000}, {1, 10001, 1, 10000},
	} {
		got := RoundRobin(c.sessions, c.rounds)
		if len(got) != c.count || !Valid(got, max(0, min(c.sessions, 8))) {
			t.Fatalf("%+v: %d actions", c, len(got))
		}
		for i, a := range got {
			if a != step(i%c.perRound) {
				t.Fatalf("%+v: %d: %v", c, i, a)
			}
		}
	}
}

// The numbers are those of SplitMix64.
func TestNumbers(t *testing.T) {
	r := random{1234567}
	for i, want := range []uint64{6457827717110365317, 3203168211198807973, 9817491932198370423, 4593380528125082431, 16408922859458223821} {
		if got := r.next(1 << 62); got != int(want%(1<<62)) {
			t.Errorf("%d: %d", i, got)
		}
	}
	r = random{0}
	if got := r.next(1000); got != 0xE220A8397B1DCDAF%1000 {
		t.Error(got)
	}
}

// expected follows the definition of Random with a list of numbers that is computed beforehand.
func expected(sessions, length int, checkpoints, crashes int, seed uint64) []api.Action {
	r := random{seed}
	numbers := make([]int, 3*length)
	const many = 1000 * 6 * 65 * 8 * 7 * 3
	for i := range numbers {
		// All that is used are remainders by divisors of many; the number itself is not representable.
		numbers[i] = r.next(many)
	}
	var l []api.Action
	open := 0
	for len(l) < length {
		k := numbers[0] % 1000
		numbers = numbers[1:]
		if k < checkpoints {
			l = append(l, checkpoint)
			continue
		}
		if k < checkpoints+crashes {
			writes := numbers[0] % 6
			numbers = numbers[1:]
			bytes := 0
			if writes > 0 {
				bytes = numbers[0] % 65
				numbers = numbers[1:]
			}
			l = append(l, crash(writes, bytes))
			open = 1
			continue
		}
		if k >= 800 && open == 1 {
			l = append(l, recover1)
			open = 0
			continue
		}
		l = append(l, step(numbers[0]%sessions))
		numbers = numbers[1:]
	}
	return l
}

func TestRandom(t *testing.T) {
	for seed := range uint64(50) {
		seed *= 0x123456789ABCDEF
		for _, sessions := range []int{1, 3, 8} {
			for _, r := range []Rates{{0, 0}, {100, 50}, {0, 300}, {1000, 1000}, {500, 500}, {0, 1000}, {30, 900}} {
				got := Random(sessions, 200, r, seed)
				if !reflect.DeepEqual(got, expected(sessions, 200, r.Checkpoints, r.Crashes, seed)) {
					t.Fatalf("seed %d, %d sessions, %v", seed, sessions, r)
				}
				if !Valid(got, sessions) {
					t.Fatal("not valid")
				}
			}
		}
	}
}

func TestRandomLimits(t *testing.T) {
	same := func(a, b []api.Action, what string) {
		t.Helper()
		if !reflect.DeepEqual(a, b) {
			t.Error(what)
		}
	}
	rates := Rates{100, 100}
	same(Random(8, 100, rates, 1), Random(20, 100, rates, 1), "more sessions than 8")
	same(Random(2, 100, Rates{-5, 100}, 1), Random(2, 100, Rates{0, 100}, 1), "negative checkpoints")
	same(Random(2, 100, Rates{100, -5}, 1), Random(2, 100, Rates{100, 0}, 1), "negative crashes")
	same(Random(2, 100, Rates{2000, 1}, 1), Random(2, 100, Rates{1000, 1}, 1), "many checkpoints")
	same(Random(2, 100, Rates{1, 2000}, 1), Random(2, 100, Rates{1, 1000}, 1), "many crashes")
	same(Random(2, 100, Rates{-1 << 63, 1<<63 - 1}, 1), Random(2, 100, Rates{0, 1000}, 1), "rates without limits")
	for _, c := range []struct{ sessions, length, count int }{{0, 5, 0}, {-1, 5, 0}, {1, 0, 0}, {1, -1, 0}, {1, 1, 1}, {2, 10000, 10000}, {2, 10001, 10000}, {2, 1 << 40, 10000}} {
		if got := Random(c.sessions, c.length, rates, 7); len(got) != c.count {
			t.Errorf("%+v: %d actions", c, len(got))
		}
	}
	kinds := map[int]int{}
	for _, a := range Random(3, 1000, rates, 9) {
		kinds[a.Kind]++
	}
	if len(kinds) != 4 {
		t.Errorf("%v", kinds)
	}
}

var texts = []struct {
	action api.Action
	text   string
}{
	{step(0), "step 0"}, {step(7), "step 7"}, {checkpoint, "checkpoint"}, {recover1, "recover"}, {crash(0, 0), "crash"},
	{crash(2, 30), "crash 2 30"}, {crash(1, 0), "crash 1 0"}, {crash(1000000, 64), "crash 1000000 64"},
}

func TestTexts(t *testing.T) {
	var all []api.Action
	text := ""
	for _, c := range texts {
		all, text = append(all, c.action), text+c.text+"\n"
		if got, e := Format([]api.Action{c.action}); got != c.text+"\n" || e != api.OK {
			t.Errorf("%q", got)
		}
	}
	if got, e := Format(all); got != text || e != api.OK {
		t.Errorf("%q", got)
	}
	if got, n, e := Parse(text); !reflect.DeepEqual(got, all) || n != 0 || e != api.OK {
		t.Errorf("%v", got)
	}
	if got, e := Format(nil); got != "" || e != api.OK {
		t.Errorf("%q", got)
	}
	if got, n, e := Parse(""); len(got) > 0 || n != 0 || e != api.OK {
		t.Errorf("%v", got)
	}
	for seed := range uint64(100) {
		l := Random(8, 100, Rates{100, 200}, seed)
		s, e := Format(l)
		if got, n, f := Parse(s); e != api.OK || f != api.OK || n != 0 || !reflect.DeepEqual(got, l) {
			t.Fatalf("%q", s)
		}
	}
}

func TestInvalid(t *testing.T) {
	for _, a := range []api.Action{
		{}, {Kind: -1}, {Kind: 5}, step(-1), step(8), {Kind: api.ActStep, Writes: 1}, {Kind: api.ActStep, Bytes: 1}, {Kind: api.ActStep, Writes: -1}, {Kind: api.ActStep, Bytes: -1},
		{Kind: api.ActCheckpoint, Session: 1}, {Kind: api.ActCheckpoint, Writes: 1}, {Kind: api.ActCheckpoint, Bytes: 1},
		{Kind: api.ActRecover, Session: 1}, {Kind: api.ActRecover, Writes: 1}, {Kind: api.ActRecover, Bytes: 1}, {Kind: api.ActRecover, Session: -1},
		{Kind: api.ActCrash, Session: 1}, {Kind: api.ActCrash, Session: 1, Writes: 1}, crash(-1, 0), crash(0, 1), crash(0, -1), crash(1, -1), crash(1, 65), crash(1000001, 0), crash(1000001, 65),
	} {
		if Valid([]api.Action{step(0), a}, 8) {
			t.Errorf("%+v is valid", a)
		}
		if s, e := Format([]api.Action{step(0), a}); s != "" || e != api.ErrInvalid {
			t.Errorf("%+v: %q, %d", a, s, e)
		}
	}
	for _, c := range []struct {
		session, sessions int
		want              bool
	}{{0, 1, true}, {1, 1, false}, {0, 0, false}, {0, -1, false}, {7, 8, true}, {8, 9, true}, {2, 3, true}, {3, 3, false}} {
		if Valid([]api.Action{checkpoint, step(c.session), crash(0, 0)}, c.sessions) != c.want {
			t.Errorf("%+v", c)
		}
	}
	if !Valid(nil, 0) || !Valid([]api.Action{checkpoint, recover1, crash(5, 5)}, 0) || !Valid([]api.Action{recover1}, -1) {
		t.Error("a schedule without steps is not valid")
	}
}

func TestParseErrors(t *testing.T) {
	for _, text := range []string{
		"", " ", "step", "step ", "step  0", " step 0", "step 0 ", "step 00", "step 01", "step +1", "step -1", "step 8", "step 9", "step 10", "step x", "step 0 0", "Step 0", "step\t0", "step 0\r",
		"steps 0", "ste", "checkpoint ", "checkpoint 0", "checkpoints", " checkpoint", "recover 0", "recover ", "crash ", "crash 0", "crash 0 0", "crash 1", "crash 1 ", "crash 1 65", "crash 1 064", "crash 01 2", "crash 1000001 2",
		"crash 99999999999999999999999999 1", "crash 1 99999999999999999999999999", "crash 18446744073709551617 1", "step 18446744073709551616", "crash 1 2 3", "crash 1  2", "crash -1 2", "crash 1 -2", "crash 1,2", "step 0x1", "step 1_0", "\x00", "step \uff11",
	} {
		for lines := range 3 {
			before := strings.Repeat("crash 1 2\n", lines)
			if l, n, e := Parse(before + text + "\nstep 9\n"); len(l) > 0 || n != lines+1 || e != api.ErrSyntax {
				t.Errorf("%q: %d %d", text, n, e)
			}
		}
	}
	for _, c := range []struct {
		text string
		line int
	}{{"step 0", 1}, {"step 0\nstep 1", 2}, {"step 0\nstep 1\n\n", 3}, {"\n", 1}, {"step 0\n \n", 2}, {"step 0\nrecover\ncrash", 3}, {"step 0\r\n", 1}, {"step 0\nstep", 2}} {
		if l, n, e := Parse(c.text); len(l) > 0 || n != c.line || e != api.ErrSyntax {
			t.Errorf("%q: %d %d", c.text, n, e)
		}
	}
}
