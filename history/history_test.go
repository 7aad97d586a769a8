package history

import (
	"math/rand"
	"reflect"
	"slices"
	"strconv"
	"strings"
	"testing"

	"disjoint/api"
	"disjoint/value"
)

func list(l ...api.Value) api.Row { return l }

var (
	ann  = list(value.Int(3), value.Text("ann"))
	wait = api.Event{Kind: api.EvWait, Txn: 17, Statement: 2, Waits: []api.Wait{{Txn: 9, Table: 1, Row: ann}}}
)

// cases are events with their texts.
var cases = []struct {
	event api.Event
	text  string
}{
	{wait, "wait 0 17 2\nfor 9 1 (3, 'ann')\n"},
	{api.Event{Kind: api.EvBegin, Session: 7, Txn: 8}, "begin 7 8 0\n"},
	{api.Event{Kind: api.EvGrant, Txn: 1, Statement: 12}, "grant 0 1 12\n"},
	{api.Event{Kind: api.EvDone, Txn: 1}, "done 0 1 0\n"},
	{api.Event{Kind: api.EvCommit, Session: 1, Txn: 1<<63 - 1, Statement: 1<<63 - 1}, "commit 1 9223372036854775807 9223372036854775807\n"},
	{api.Event{Kind: api.EvRollback, Txn: 10, Statement: 10}, "rollback 0 10 10\n"},
	{api.Event{Kind: api.EvRows, Txn: 1}, "rows 0 1 0\n"},
	{api.Event{Kind: api.EvRows, Txn: 1, Rows: []api.Row{nil, ann, list(value.Int(-5)), list(api.Value{}, value.Text("")), nil}}, "rows 0 1 0\nrow ()\nrow (3, 'ann')\nrow (-5)\nrow (NULL, '')\nrow ()\n"},
	{api.Event{Kind: api.EvRows, Txn: 2, Rows: []api.Row{list(value.Text("a, 'b"), value.Text("', '"), value.Text(") (")), list(value.Text("''''''''''''''''"), value.Text("'"))}}, "rows 0 2 0\nrow ('a, ''b', ''', ''', ') (')\nrow ('''''''''''''''''''''''''''''''''', '''')\n"},
	{api.Event{Kind: api.EvCount, Txn: 1}, "count 0 1 0 0\n"},
	{api.Event{Kind: api.EvCount, Txn: 1, Count: 1<<63 - 1}, "count 0 1 0 9223372036854775807\n"},
	{api.Event{Kind: api.EvError, Txn: 1, Errno: 1}, "error 0 1 0 1\n"},
	{api.Event{Kind: api.EvAbort, Txn: 1, Errno: 17}, "abort 0 1 0 17\n"},
	{api.Event{Kind: api.EvCheckpoint}, "checkpoint\n"},
	{api.Event{Kind: api.EvCrash}, "crash\n"},
	{api.Event{Kind: api.EvRecover}, "recover\n"},
	{api.Event{Kind: api.EvWait, Session: 2, Txn: 3, Waits: []api.Wait{{Txn: 1, Row: list(api.Value{})}, {Txn: 1<<63 - 1, Table: 7, Row: list(value.Int(-1 << 63))}}}, "wait 2 3 0\nfor 1 0 (NULL)\nfor 9223372036854775807 7 (-9223372036854775808)\n"},
}

func TestTexts(t *testing.T) {
	var all []api.Event
	text := ""
	for _, c := range cases {
		all, text = append(all, c.event), text+c.text
		if got, e := Format([]api.Event{c.event}); got != c.text || e != api.OK {
			t.Errorf("%q, %d instead of %q", got, e, c.text)
		}
		if got, line, e := Parse(c.text); !Equal(got, []api.Event{c.event}) || line != 0 || e != api.OK {
			t.Errorf("%q: %v, %d, %d", c.text, got, line, e)
		}
	}
	if got, e := Format(all); got != text || e != api.OK {
		t.Errorf("%q, %d", got, e)
	}
	if got, line, e := Parse(text); !Equal(got, all) || line != 0 || e != api.OK {
		t.Errorf("%v, %d, %d", got, line, e)
	}
	if got, e := Format(nil); got != "" || e != api.OK {
		t.Errorf("%q", got)
	}
	if got, line, e := Parse(""); len(got) > 0 || line != 0 || e != api.OK {
		t.Errorf("%v", got)
	}
}

func TestFormatInvalid(t *testing.T) {
	with := func(change func(e *api.Event)) api.Event {
		e := wait
		e.Waits = []api.Wait{{Txn: 9, Table: 1, Row: ann}, {Txn: 9, Table: 1, Row: slices.Clone(ann)}}
		change(&e)
		return e
	}
	bad := api.Value{Kind: api.Integer, Text: "x"}
	for i, e := range []api.Event{
		{}, {Kind: -1, Txn: 1}, {Kind: 14}, {Kind: 14, Txn: 1},
		{Kind: api.EvBegin}, {Kind: api.EvBegin, Txn: -1}, {Kind: api.EvBegin, Txn: 1, Session: -1}, {Kind: api.EvBegin, Txn: 1, Session: 8}, {Kind: api.EvBegin, Txn: 1, Statement: -1},
		{Kind: api.EvBegin, Txn: 1, Errno: 1}, {Kind: api.EvBegin, Txn: 1, Count: 1}, {Kind: api.EvBegin, Txn: 1, Rows: []api.Row{nil}}, {Kind: api.EvBegin, Txn: 1, Waits: wait.Waits},
		{Kind: api.EvCount, Txn: 1, Count: -1}, {Kind: api.EvCount, Txn: 1, Errno: 1}, {Kind: api.EvDone, Txn: 1, Count: 1}, {Kind: api.EvDone, Txn: 1, Count: -1},
		{Kind: api.EvError, Txn: 1}, {Kind: api.EvError, Txn: 1, Errno: 18}, {Kind: api.EvError, Txn: 1, Errno: -1}, {Kind: api.EvError, Txn: 1, Errno: 1, Count: 2}, {Kind: api.EvAbort, Txn: 1}, {Kind: api.EvAbort, Errno: 1}, {Kind: api.EvAbort, Txn: 1, Errno: 1, Rows: []api.Row{ann}},
		{Kind: api.EvCheckpoint, Txn: 1}, {Kind: api.EvCrash, Session: 1}, {Kind: api.EvRecover, Statement: 1}, {Kind: api.EvCrash, Errno: 1}, {Kind: api.EvRecover, Count: 1}, {Kind: api.EvCheckpoint, Rows: []api.Row{nil}}, {Kind: api.EvCheckpoint, Waits: wait.Waits},
		{Kind: api.EvRows, Txn: 1, Rows: []api.Row{nil, list(bad)}}, {Kind: api.EvRows, Txn: 1, Rows: []api.Row{list(value.Text("\n"))}}, {Kind: api.EvRows, Txn: 1, Rows: []api.Row{list(value.Text("aaaaaaaaaaaaaaaaa"))}}, {Kind: api.EvRows, Txn: 1, Waits: wait.Waits},
		with(func(e *api.Event) { e.Waits = nil }),
		with(func(e *api.Event) { e.Waits = []api.Wait{} }),
		with(func(e *api.Event) { e.Waits[1].Txn = 0 }),
		with(func(e *api.Event) { e.Waits[1].Table = -1 }),
		with(func(e *api.Event) { e.Waits[1].Table = 8 }),
		with(func(e *api.Event) { e.Waits[1].Row = nil }),
		with(func(e *api.Event) { e.Waits[1].Row = api.Row{} }),
		with(func(e *api.Event) { e.Waits[1].Row[0] = bad }),
		with(func(e *api.Event) { e.Rows = []api.Row{nil} }),
		with(func(e *api.Event) { e.Txn = 0 }),
		with(func(e *api.Event) { e.Count = 1 }),
	} {
		if s, err := Format([]api.Event{wait, e}); s != "" || err != api.ErrInvalid {
			t.Errorf("%d: %+v: %q, %d", i, e, s, err)
		}
	}
	// Empty slices are allowed where there are no elements.
	if s, err := Format([]api.Event{{Kind: api.EvBegin, Txn: 1, Rows: []api.Row{}, Waits: []api.Wait{}}}); s != "begin 0 1 0\n" || err != api.OK {
		t.Errorf("%q", s)
	}
}

func TestParseErrors(t *testing.T) {
	for _, text := range []string{
		"", " ", "beg", "begins 0 1 0", "Begin 0 1 0", "begin", "begin ", "begin 0", "begin 0 1", "begin 0 1 ", "begin 0 1 0 ", " begin 0 1 0", "begin 0 1 0 0", "begin  0 1 0", "begin 0  1 0", "begin 0 1  0",
		"begin 8 1 0", "begin -1 1 0", "begin 0 0 0", "begin 0 -1 0", "begin 0 1 -1", "begin 0 1 -0", "begin 00 1 0", "begin 0 01 0", "begin 0 1 00", "begin 0 +1 0", "begin 0 1 0\r", "begin 0 1 x", "begin 0 1 9223372036854775808", "begin 0 9223372036854775808 1", "begin 18446744073709551616 1 1",
		"count 0 1 0", "count 0 1 0 -1", "count 0 1 0 01", "count 0 1 0 9223372036854775808", "count 0 1 0 1 1", "error 0 1 0", "error 0 1 0 0", "error 0 1 0 18", "abort 0 1 0", "abort 0 1 0 0", "abort 0 1 0 01", "abort 0 1 0 -1", "abort 0 1 0 18446744073709551617",
		"commit 0 1", "done 0 1 0 1", "checkpoint ", "checkpoint 0", "crash 1", "recover 0 1 0", "recovery", "row (1)", "row", "rows 0 1", "rows 0 1 0 0", "rows 0 1 0 (1)", "for 1 0 (1)", "for", "wait 0 1", "wait 0 1 0 1", "wait 0 1 0 for 1 0 (1)", "\x00",
	} {
		for i, before := range []string{"", "begin 0 1 0\n", "rows 0 1 0\n", "wait 0 1 0\nfor 2 0 (1)\n", "crash\nrecover\n"} {
			if i == 2 && text == "row (1)" || i == 3 && text == "for 1 0 (1)" {
				continue
			}
			want := strings.Count(before, "\n") + 1
			if l, line, e := Parse(before + text + "\ncrash\n"); len(l) > 0 || line != want || e != api.ErrSyntax {
				t.Errorf("%q after %q: %d %d", text, before, line, e)
			}
		}
	}
}

func TestParseRows(t *testing.T) {
	for _, text := range []string{
		"", "(", ")", "1", "1)", "(1", "(1,)", "(1, )", "(, 1)", "(,)", "(1,2)", "(1,  2)", "(1 , 2)", "( 1)", "(1 )", "(1) ", " (1)", "(1))", "((1)", "(01)", "(+1)", "(-0)", "(9223372036854775808)", "(null)", "(NULLs)", "(')", "('a)", "(a')", "('a'')", "('a' 'b')", "('a''', b)",
		"('a', 'b)", "('\t')", "('ä')", "('aaaaaaaaaaaaaaaaa')", "(\"a\")", "(1, 2, )", "(TRUE)", "(1.0)", "('a'b)", "()()", "() ", "( )",
	} {
		for _, before := range []string{"rows 0 1 0\n", "rows 0 1 0\nrow (1)\n", "wait 0 1 0\n", "wait 0 1 0\nfor 2 0 (1)\n"} {
			word := "row "
			if before[0] == 'w' {
				word = "for 1 0 "
			}
			want := strings.Count(before, "\n") + 1
			if l, line, e := Parse(before + word + text + "\n"); len(l) > 0 || line != want || e != api.ErrSyntax {
				t.Errorf("%q after %q: %d %d", word+text, before, line, e)
			}
		}
	}
}

func TestParseOrder(t *testing.T) {
	for _, c := range []struct {
		text string
		line int
	}{
		// A wait needs a reason, and rows and reasons follow their events only.
		{"wait 0 1 0\n", 2}, {"crash\nwait 0 1 0\n", 3}, {"wait 0 1 0\ncrash\n", 2}, {"wait 0 1 0\nwait 0 1 0\n", 2}, {"wait 0 1 0\nrow (1)\n", 2}, {"wait 0 1 0\nfor 1 0 (1)\nrow (1)\n", 3},
		{"rows 0 1 0\nfor 1 0 (1)\n", 2}, {"rows 0 1 0\ncrash\nrow (1)\n", 3}, {"wait 0 1 0\nfor 1 0 (1)\ncrash\nfor 1 0 (1)\n", 4}, {"count 0 1 0 1\nrow (1)\n", 2},
		// Reasons are not empty, and have numbers in their ranges.
		{"wait 0 1 0\nfor 1 0 ()\n", 2}, {"wait 0 1 0\nfor 0 0 (1)\n", 2}, {"wait 0 1 0\nfor -1 0 (1)\n", 2}, {"wait 0 1 0\nfor 1 8 (1)\n", 2}, {"wait 0 1 0\nfor 1 -1 (1)\n", 2}, {"wait 0 1 0\nfor 1 (1)\n", 2}, {"wait 0 1 0\nfor 1 0\n", 2}, {"wait 0 1 0\nfor 1\n", 2}, {"wait 0 1 0\nfor\n", 2}, {"wait 0 1 0\nfor  1 0 (1)\n", 2}, {"wait 0 1 0\nfor 01 0 (1)\n", 2}, {"wait 0 1 0\nfor 1 00 (1)\n", 2}, {"wait 0 1 0\nfor 1 0  (1)\n", 2},
		{"wait 0 1 0\nfor 9223372036854775808 0 (1)\n", 2},
		// Line feeds are missing, or there are too many.
		{"crash", 1}, {"crash\ncrash", 2}, {"\n", 1}, {"crash\n\n", 2}, {"crash\n\ncrash\n", 2}, {"rows 0 1 0\nrow (1)", 2}, {"wait 0 1 0", 1}, {"wait 0 1 0\nfor 1 0 (1)", 2}, {"crash\r\n", 1}, {"x", 1}, {"crash\nx", 2}, {"x\ncrash", 1},
	} {
		if l, line, e := Parse(c.text); len(l) > 0 || line != c.line || e != api.ErrSyntax {
			t.Errorf("%q: line %d, %d", c.text, line, e)
		}
	}
}

func randomValue(r *rand.Rand) api.Value {
	switch r.Intn(4) {
	case 0:
		return api.Value{}
	case 1:
		return value.Int(r.Int63() >> r.Intn(63) * int64(1-2*r.Intn(2)))
	}
	const letters = "',() \\a~"
	s := ""
	for range r.Intn(9) {
		s += string(letters[r.Intn(len(letters))])
	}
	return value.Text(s)
}

func randomRow(r *rand.Rand, least int) api.Row {
	var l api.Row
	for range least + r.Intn(4) {
		l = append(l, randomValue(r))
	}
	return l
}

func randomHistory(r *rand.Rand) []api.Event {
	var l []api.Event
	for range r.Intn(12) {
		e := api.Event{Kind: 1 + r.Intn(13)}
		if e.Kind <= api.EvAbort {
			e.Session, e.Txn, e.Statement = r.Intn(8), 1+r.Int63n(40), r.Intn(30)
		}
		switch e.Kind {
		case api.EvWait:
			for range 1 + r.Intn(3) {
				e.Waits = append(e.Waits, api.Wait{Txn: 1 + r.Int63n(40), Table: r.Intn(8), Row: randomRow(r, 1)})
			}
		case api.EvRows:
			for range r.Intn(4) {
				e.Rows = append(e.Rows, randomRow(r, 0))
			}
		case api.EvCount:
			e.Count = r.Intn(100)
		case api.EvError, api.EvAbort:
			e.Errno = api.Errno(1 + r.Intn(17))
		}
		l = append(l, e)
	}
	return l
}

// TestRandom checks P54.2.
func TestRandom(t *testing.T) {
	r := rand.New(rand.NewSource(91))
	texts := map[string][]api.Event{}
	previous, before := "", []api.Event(nil)
	for range 3000 {
		l := randomHistory(r)
		s, e := Format(l)
		if e != api.OK {
			t.Fatalf("%v: %d", l, e)
		}
		if other, found := texts[s]; found && !Equal(l, other) {
			t.Fatalf("%q is the text of two histories", s)
		}
		texts[s] = l
		if got, line, e := Parse(s); !Equal(got, l) || line != 0 || e != api.OK {
			t.Fatalf("%q: %v, %d", s, got, line)
		}
		if both, _ := Format(slices.Concat(before, l)); both != previous+s {
			t.Fatalf("%q", both)
		}
		previous, before = s, l
		// Whatever can be parsed after a change is restored by Format.
		b := []byte(s)
		for range 1 + r.Intn(2) {
			if len(b) > 0 {
				b[r.Intn(len(b))] = "\n 01'(),r-"[r.Intn(10)]
			}
		}
		changed, line, e := Parse(string(b))
		again, f := Format(changed)
		if e == api.OK && (again != string(b) || f != api.OK || line != 0) {
			t.Fatalf("%q became %q", b, again)
		}
		if e != api.OK && !firstBad(string(b), line) {
			t.Fatalf("%q: line %d", b, line)
		}
	}
}

// firstBad reports whether the lines before a line are the beginning of a history, but those up to it are not.
func firstBad(s string, line int) bool {
	lines := strings.SplitAfter(s, "\n")
	begins := func(n int) bool {
		text := strings.Join(lines[:n], "")
		_, _, e := Parse(text)
		_, _, f := Parse(text + "for 1 0 (1)\n")
		return e == api.OK || f == api.OK
	}
	if !begins(line - 1) {
		return false
	}
	return line-1 == len(lines) || lines[line-1] == "" || !begins(line)
}

func TestCommitted(t *testing.T) {
	if got := Committed(nil); len(got) > 0 {
		t.Error(got)
	}
	l := []api.Event{{Kind: api.EvBegin, Txn: 1}, {Kind: api.EvCommit, Txn: 9}, {Kind: api.EvRollback, Txn: 2}, {Kind: api.EvCommit, Txn: 1}, {Kind: api.EvAbort, Txn: 7}, {Kind: api.EvCommit, Txn: -3}, {Kind: api.EvCommit, Txn: 9}}
	if got := Committed(l); !reflect.DeepEqual(got, []int64{9, 1, -3, 9}) {
		t.Error(got)
	}
}

func TestOutcomes(t *testing.T) {
	l := []api.Event{
		0: {Kind: api.EvRows, Txn: 1}, 1: {Kind: api.EvBegin, Txn: 1}, 2: {Kind: api.EvRows, Txn: 1}, 3: {Kind: api.EvBegin, Txn: 2}, 4: {Kind: api.EvCount, Txn: 2}, 5: {Kind: api.EvWait, Txn: 1}, 6: {Kind: api.EvAbort, Txn: 1},
		7: {Kind: api.EvBegin, Txn: 1, Session: 3}, 8: {Kind: api.EvRows, Txn: 1}, 9: {Kind: api.EvCount, Txn: 1}, 10: {Kind: api.EvError, Txn: 2}, 11: {Kind: api.EvDone, Txn: 1}, 12: {Kind: api.EvError, Txn: 1}, 13: {Kind: api.EvWait, Txn: 1}, 14: {Kind: api.EvGrant, Txn: 1}, 15: {Kind: api.EvCommit, Txn: 1}, 16: {Kind: api.EvCheckpoint}, 17: {Kind: api.EvDone, Txn: 1},
		18: {Kind: api.EvDone, Txn: 3}, 19: {Kind: api.EvBegin, Txn: 4},
	}
	for txn, want := range map[int64][]int{1: {8, 9, 11, 12, 17}, 2: {4, 10}, 3: nil, 4: nil, 0: nil, -1: nil} {
		if got := Outcomes(l, txn); !slices.Equal(got, want) {
			t.Errorf("%d: %v", txn, got)
		}
	}
	if got := Outcomes(nil, 1); len(got) > 0 {
		t.Error(got)
	}
}

func TestExplain(t *testing.T) {
	s := api.Schema{{Name: "empty"}, {Name: "account", Columns: []api.Column{{Name: "id"}, {Name: "owner"}}}}
	e := wait
	e.Waits = []api.Wait{
		wait.Waits[0], {Txn: 1, Table: 0, Row: ann}, {Txn: 1, Table: 2, Row: ann}, {Txn: -2, Table: -1, Row: list(api.Value{})}, {Txn: 3, Table: 1, Row: list(value.Int(4))}, {Txn: 3, Table: 1, Row: append(slices.Clone(ann), value.Int(4))},
		{Txn: 0, Table: 0}, {Txn: 0, Table: 9}, {Txn: 5, Table: 1, Row: list(api.Value{Kind: 9}, value.Text("it's"))},
	}
	want := []string{
		"transaction 17 waits for transaction 9: row (id = 3, owner = 'ann') of account",
		"transaction 17 waits for transaction 1: row (3, 'ann') of table 0",
		"transaction 17 waits for transaction 1: row (3, 'ann') of table 2",
		"transaction 17 waits for transaction -2: row (NULL) of table -1",
		"transaction 17 waits for transaction 3: row (4) of table 1",
		"transaction 17 waits for transaction 3: row (3, 'ann', 4) of table 1",
		"transaction 17 waits for transaction 0: row () of empty",
		"transaction 17 waits for transaction 0: row () of table 9",
		"transaction 17 waits for transaction 5: row (id = , owner = 'it''s') of account",
	}
	if got := Explain(s, e); !reflect.DeepEqual(got, want) {
		t.Errorf("%s", strings.Join(got, "\n"))
	}
	if got := Explain(nil, wait); !reflect.DeepEqual(got, []string{"transaction 17 waits for transaction 9: row (3, 'ann') of table 1"}) {
		t.Error(got)
	}
	for kind := -1; kind < 15; kind++ {
		e.Kind = kind
		if got := Explain(s, e); kind != api.EvWait && len(got) > 0 {
			t.Errorf("kind %d: %s", kind, got)
		}
	}
	if got := Explain(s, api.Event{Kind: api.EvWait, Txn: 1}); len(got) > 0 {
		t.Error(got)
	}
}

func TestEqual(t *testing.T) {
	base := func() []api.Event {
		return []api.Event{{Kind: 1}, {Kind: 2, Session: 3, Txn: 4, Statement: 5, Errno: 6, Count: 7, Rows: []api.Row{ann, nil}, Waits: []api.Wait{{Txn: 8, Table: 9, Row: slices.Clone(ann)}, {}}}}
	}
	if !Equal(base(), base()) || !Equal(nil, []api.Event{}) || !Equal([]api.Event{}, nil) || Equal(base(), base()[:1]) || Equal(nil, base()) {
		t.Error("equal histories")
	}
	same := base()
	same[0].Rows, same[0].Waits, same[1].Rows[1], same[1].Waits[1].Row = []api.Row{}, []api.Wait{}, api.Row{}, api.Row{}
	if !Equal(base(), same) || !Equal(same, base()) {
		t.Error("nil and empty slices")
	}
	for i, change := range []func(e *api.Event){
		func(e *api.Event) { e.Kind++ }, func(e *api.Event) { e.Session++ }, func(e *api.Event) { e.Txn++ }, func(e *api.Event) { e.Statement++ }, func(e *api.Event) { e.Errno++ }, func(e *api.Event) { e.Count++ },
		func(e *api.Event) { e.Rows = e.Rows[:1] }, func(e *api.Event) { e.Rows[1] = ann }, func(e *api.Event) { e.Rows[0] = list(value.Int(3), value.Text("anN")) }, func(e *api.Event) { e.Rows = nil },
		func(e *api.Event) { e.Waits = e.Waits[:1] }, func(e *api.Event) { e.Waits[0].Txn++ }, func(e *api.Event) { e.Waits[0].Table++ }, func(e *api.Event) { e.Waits[0].Row = e.Waits[0].Row[:1] }, func(e *api.Event) { e.Waits[0].Row[0].Int++ }, func(e *api.Event) { e.Waits = nil },
	} {
		other := base()
		change(&other[1])
		if Equal(base(), other) || Equal(other, base()) {
			t.Errorf("change %d makes no difference", i)
		}
	}
}

// Reading a long history takes time that is proportional to its length.
func TestLong(t *testing.T) {
	var b strings.Builder
	for i := range 20000 {
		b.WriteString("rows 0 1 " + strconv.Itoa(i) + "\nrow (1, 'a')\nrow (2, 'b')\nwait 0 1 0\nfor 3 1 (1)\nfor 3 1 (1)\n")
	}
	l, line, e := Parse(b.String())
	if len(l) != 40000 || line != 0 || e != api.OK {
		t.Errorf("%d events, line %d", len(l), line)
	}
	if s, e := Format(l); s != b.String() || e != api.OK {
		t.Error("another text")
	}
}
