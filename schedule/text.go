package schedule

import (
	"strconv"
	"strings"

	"disjoint/api"
)

// Format returns the text of a schedule.
func Format(l []api.Action) (string, api.Errno) {
	if !Valid(l, api.MaxSessions) {
		return "", api.ErrInvalid
	}
	var b strings.Builder
	for _, a := range l {
		b.WriteString(line(a))
		b.WriteByte('\n')
	}
	return b.String(), api.OK
}

// line returns the line of an action, without the line feed.
func line(a api.Action) string {
	switch a.Kind {
	case api.ActStep:
		return "step " + strconv.Itoa(a.Session)
	case api.ActCheckpoint:
		return "checkpoint"
	case api.ActRecover:
		return "recover"
	}
	if a.Writes == 0 {
		return "crash"
	}
	return "crash " + strconv.Itoa(a.Writes) + " " + strconv.Itoa(a.Bytes)
}

// Parse returns the schedule of a text, or the number of the first line that is malformed.
func Parse(s string) ([]api.Action, int, api.Errno) {
	var l []api.Action
	for s != "" {
		text, rest, ended := strings.Cut(s, "\n")
		a := action(text)
		// Only the line that Format makes of the action is accepted.
		if !ended || !valid(a, api.MaxSessions) || line(a) != text {
			return nil, len(l) + 1, api.ErrSyntax
		}
		l = append(l, a)
		s = rest
	}
	return l, 0, api.OK
}

// action returns an action that has the given line, if there is one, and any action otherwise.
func action(text string) api.Action {
	words := strings.Split(text, " ")
	number := func(i int) int {
		if i >= len(words) {
			return 0
		}
		n, _ := strconv.Atoi(words[i])
		return n
	}
	switch words[0] {
	case "step":
		return api.Action{Kind: api.ActStep, Session: number(1)}
	case "checkpoint":
		return api.Action{Kind: api.ActCheckpoint}
	case "recover":
		return api.Action{Kind: api.ActRecover}
	case "crash":
		return api.Action{Kind: api.ActCrash, Writes: number(1), Bytes: number(2)}
	}
	return api.Action{}
}
