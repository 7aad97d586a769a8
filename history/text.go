package history

import (
	"slices"
	"strconv"
	"strings"

	"disjoint/api"
	"disjoint/value"
)

// Format returns the text of a history.
func Format(l []api.Event) (string, api.Errno) {
	var b strings.Builder
	for _, e := range l {
		if !valid(e) {
			return "", api.ErrInvalid
		}
		b.WriteString(head(e) + "\n")
		for _, w := range e.Waits {
			b.WriteString(reason(w) + "\n")
		}
		for _, r := range e.Rows {
			b.WriteString("row " + value.FormatRow(r) + "\n")
		}
	}
	return b.String(), api.OK
}

// head returns the first line of an event, without the line feed.
func head(e api.Event) string {
	s := names[e.Kind]
	if positioned(e.Kind) {
		s += " " + strconv.Itoa(e.Session) + " " + strconv.FormatInt(e.Txn, 10) + " " + strconv.Itoa(e.Statement)
	}
	switch {
	case e.Kind == api.EvCount:
		s += " " + strconv.Itoa(e.Count)
	case fails(e.Kind):
		s += " " + strconv.Itoa(int(e.Errno))
	}
	return s
}

// reason returns the line of a reason of a wait, without the line feed.
func reason(w api.Wait) string {
	return "for " + strconv.FormatInt(w.Txn, 10) + " " + strconv.Itoa(w.Table) + " " + value.FormatRow(w.Row)
}

// Parse returns the history of a text, or the number of the first line that is malformed.
func Parse(s string) ([]api.Event, int, api.Errno) {
	var l []api.Event
	line := 1
	for ; s != ""; line++ {
		text, rest, ended := strings.Cut(s, "\n")
		longer, ok := follow(l, text)
		if !ended || !ok {
			return nil, line, api.ErrSyntax
		}
		l, s = longer, rest
	}
	if incomplete(l) {
		return nil, line, api.ErrSyntax
	}
	return l, 0, api.OK
}

// incomplete reports whether the first reason of the last event is missing.
func incomplete(l []api.Event) bool {
	return len(l) > 0 && l[len(l)-1].Kind == api.EvWait && len(l[len(l)-1].Waits) == 0
}

// follow adds a line to a history, and reports whether it can follow the lines so far.
func follow(l []api.Event, text string) ([]api.Event, bool) {
	word, rest, _ := strings.Cut(text, " ")
	// Only the line that Format makes of what is read is accepted.
	switch word {
	case "for":
		w := parseReason(rest)
		if len(l) == 0 || l[len(l)-1].Kind != api.EvWait || !validWait(w) || reason(w) != text {
			return nil, false
		}
		last := &l[len(l)-1]
		last.Waits = append(last.Waits, w)
		return l, true
	case "row":
		r, ok := parseRow(rest)
		if len(l) == 0 || l[len(l)-1].Kind != api.EvRows || !ok || "row "+value.FormatRow(r) != text {
			return nil, false
		}
		last := &l[len(l)-1]
		last.Rows = append(last.Rows, r)
		return l, true
	}
	e := parseHead(word, rest)
	if incomplete(l) || !validHead(e) || head(e) != text {
		return nil, false
	}
	return append(l, e), true
}

// number returns the number of a word, or any number if there is none.
func number(word string) int64 {
	n, _ := strconv.ParseInt(word, 10, 64)
	return n
}

// parseHead returns the event whose first line consists of a name and other words, or any event if there is none.
func parseHead(name, rest string) api.Event {
	e := api.Event{Kind: slices.Index(names[:], name)}
	if !positioned(e.Kind) {
		return e
	}
	// With four words more there is one for each number.
	words := append(strings.Split(rest, " "), "", "", "", "")
	e.Session, e.Txn, e.Statement = int(number(words[0])), number(words[1]), int(number(words[2]))
	switch {
	case e.Kind == api.EvCount:
		e.Count = int(number(words[3]))
	case fails(e.Kind):
		e.Errno = api.Errno(number(words[3]))
	}
	return e
}

// parseReason returns the reason whose line contains some text behind its first word, or any reason if there is none.
func parseReason(text string) api.Wait {
	words := append(strings.SplitN(text, " ", 3), "", "")
	w := api.Wait{Txn: number(words[0]), Table: int(number(words[1]))}
	w.Row, _ = parseRow(words[2])
	return w
}

// parseRow returns the row with a text, and reports whether there is one.
func parseRow(text string) (api.Row, bool) {
	inside, begins := strings.CutPrefix(text, "(")
	inside, ends := strings.CutSuffix(inside, ")")
	if !begins || !ends {
		return nil, false
	}
	var r api.Row
	for inside != "" {
		n := literal(inside)
		v, e := value.Parse(inside[:n])
		if e != api.OK {
			return nil, false
		}
		r = append(r, v)
		rest, more := strings.CutPrefix(inside[n:], ", ")
		if more == (rest == "") {
			return nil, false
		}
		inside = rest
	}
	return r, true
}

// literal returns the length of the literal at the beginning of a text.
func literal(text string) int {
	quoted := false
	for i := range len(text) {
		switch {
		case text[i] == '\'':
			quoted = !quoted
		case text[i] == ',' && !quoted:
			return i
		}
	}
	return len(text)
}
