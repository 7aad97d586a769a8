package console

import (
	"disjoint/api"
	"disjoint/binder"
	"disjoint/disk"
	"disjoint/engine"
	"disjoint/parser"
	"disjoint/recovery"
	"disjoint/schedule"
	"disjoint/schema"
)

// maxLength is the greatest number of rounds, and the greatest length of a schedule, of one command.
const maxLength = 1000

// define makes the tables of a text the schema.
func (c *Console) define(a arguments) (string, api.Errno) {
	l, _, err := parser.Script(a.text)
	if err != api.OK {
		return "", err
	}
	s, _, err := schema.Build(l)
	if err != api.OK {
		return "", err
	}
	bound, err := binder.Schema(s)
	if err != api.OK {
		return "", err
	}
	c.schema = bound
	return "", api.OK
}

// session adds a session with the script of a text.
func (c *Console) session(a arguments) (string, api.Errno) {
	if len(c.scripts) == api.MaxSessions {
		return "", api.ErrTooLarge
	}
	l, _, err := parser.Script(a.text)
	if err != api.OK {
		return "", err
	}
	c.scripts = append(c.scripts, l)
	return "", api.OK
}

// open opens an engine on a new disk.
func (c *Console) open(a arguments) (string, api.Errno) {
	d, err := disk.New(a.numbers[0])
	if err != api.OK {
		return "", err
	}
	if err := recovery.Format(d, c.schema); err != api.OK {
		return "", err
	}
	e, err := engine.New(d, c.schema, c.scripts)
	if err != api.OK {
		return "", err
	}
	c.engine = e
	return "", api.OK
}

// act performs the action of a line.
func (c *Console) act(a arguments) (string, api.Errno) {
	if !schedule.Valid(a.actions, len(c.scripts)) {
		return "", api.ErrInvalid
	}
	return c.perform(a.actions), api.OK
}

// run performs the steps of all sessions in turn.
func (c *Console) run(a arguments) (string, api.Errno) {
	return c.perform(schedule.RoundRobin(len(c.scripts), min(a.numbers[0], maxLength))), api.OK
}

// random performs a pseudorandom schedule.
func (c *Console) random(a arguments) (string, api.Errno) {
	rates := schedule.Rates{Checkpoints: a.numbers[1], Crashes: a.numbers[2]}
	return c.perform(schedule.Random(len(c.scripts), min(a.numbers[0], maxLength), rates, uint64(a.numbers[3]))), api.OK
}

// perform performs actions, and returns the text of their events.
func (c *Console) perform(l []api.Action) string {
	var events []api.Event
	for _, a := range l {
		events = append(events, c.engine.Do(a)...)
	}
	return text(events)
}
