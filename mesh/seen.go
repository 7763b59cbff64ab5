package mesh

import "mesh/api"

// question is what tells one request from another.
type question struct {
	from, id uint32
}

// memory is of one request.
type memory struct {
	until uint64
	turn  int // how many were remembered ahead of it
}

// seen is the requests that a node remembers.
type seen struct {
	memories map[question]memory
	turn     int
}

func newSeen() seen {
	return seen{memories: map[question]memory{}}
}

func (s *seen) has(q question, now uint64) bool {
	return now < s.memories[q].until
}

func (s *seen) add(q question, until uint64) {
	s.memories[q] = memory{until: until, turn: s.turn}
	s.turn++
	if len(s.memories) > api.MaxSeen {
		delete(s.memories, s.first())
	}
}

// first is the one to be forgotten first.
func (s *seen) first() question {
	var first question
	least, any := memory{}, false
	for q, m := range s.memories {
		if !any || m.ahead(least) {
			first, least, any = q, m, true
		}
	}
	return first
}

// ahead tells whether a is forgotten ahead of b. No two are equal, as their turns differ.
func (a memory) ahead(b memory) bool {
	if a.until != b.until {
		return a.until < b.until
	}
	return a.turn < b.turn
}
