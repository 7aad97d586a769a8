package pattern

import (
	"disjoint/api"
)

// search finds texts that pass several tests. It follows the states of all tests together, and remembers which of them lead nowhere; so the number of states of their automata does not matter.
type search struct {
	machines []machine
	ranges   []characters
	possible map[string]bool // whether states, with a number of characters left, lead to a text
	most     int
	found    []string
}

func newSearch(l []api.Test) *search {
	s := &search{ranges: ranges(l), possible: map[string]bool{}}
	for _, t := range l {
		s.machines = append(s.machines, newMachine(t))
	}
	return s
}

// words returns the first texts of a length.
func (s *search) words(length, most int) []string {
	s.found, s.most = nil, most
	if length < 0 || most < 1 {
		return nil
	}
	var states []state
	for i := range s.machines {
		states = append(states, s.machines[i].start())
	}
	if s.settle(states, length) && s.leads(states, length) {
		s.collect(states, nil, length)
	}
	return s.found
}

// settle simplifies states, and reports whether, as far as is known, some text leads to them that has left more characters and passes all tests.
func (s *search) settle(states []state, left int) bool {
	var counts [lastCharacter + 1]int
	for i := range s.machines {
		if states[i] == settled {
			continue
		}
		reduced, v := s.machines[i].judge(states[i], left)
		switch v {
		case nonePass:
			return false
		case allPass:
			reduced = settled
		}
		states[i] = reduced
		s.machines[i].wanted(reduced, &counts)
	}
	for _, n := range counts {
		left -= n
	}
	return left >= 0
}

// advance returns the states after a further character, and whether they can lead to a text.
func (s *search) advance(states []state, c byte, left int) ([]state, bool) {
	next := make([]state, len(states))
	for i, x := range states {
		next[i] = x
		if x != settled {
			next[i] = s.machines[i].step(x, c)
		}
	}
	return next, s.settle(next, left) && s.leads(next, left)
}

// leads reports whether settled states lead to a text.
func (s *search) leads(states []state, left int) bool {
	if left == 0 {
		return true
	}
	k := key(states, left)
	if known, ok := s.possible[k]; ok {
		return known
	}
	result := false
	for _, r := range s.ranges {
		if _, ok := s.advance(states, r.low, left-1); ok {
			result = true
			break
		}
	}
	s.possible[k] = result
	return result
}

func key(states []state, left int) string {
	b := []byte{byte(left)}
	for _, x := range states {
		b = append(b, byte(x), byte(x>>8), byte(x>>16), byte(x>>24))
	}
	return string(b)
}

// collect finds the texts that begin with prefix, which leads to states from which there are some.
func (s *search) collect(states []state, prefix []byte, left int) {
	if left == 0 {
		s.found = append(s.found, string(prefix))
		return
	}
	for _, r := range s.ranges {
		next, ok := s.advance(states, r.low, left-1)
		if !ok {
			continue
		}
		for c := r.low; c <= r.high; c++ {
			if len(s.found) >= s.most {
				return
			}
			s.collect(next, append(prefix, c), left-1)
		}
	}
}
