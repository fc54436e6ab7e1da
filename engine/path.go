package engine

import (
	"slices"

	"ullage/api"
)

// queue is a list at whose end is added, and from whose front is taken.
type queue[T any] struct {
	items []T
	taken int
}

// add adds an item.
func (q *queue[T]) add(x T) { q.items = append(q.items, x) }

// take takes the item that was added first; ok is false if there is none.
func (q *queue[T]) take() (x T, ok bool) {
	if q.taken == len(q.items) {
		return x, false
	}
	q.taken++
	return q.items[q.taken-1], true
}

// move is how a state was reached: from which one, and by an order or by a tick.
type move struct {
	from    valves
	order   api.Order
	ordered bool
}

// search is the states that have been reached. They are looked at in the order in which they were reached, with the moves of each one in their order, so a state is reached first by the least one of its shortest rows.
type search struct {
	gates   gates
	reached map[valves]move
	next    queue[valves]
}

// Path returns the orders that lead to a goal.
func Path(p api.Plant, goal []api.Lit) ([]api.Order, api.Errno) {
	if !CheckPlant(p) || !isFrom(len(goal), 1, maxList) || !validLits(p, goal) {
		return nil, api.ErrArg
	}
	s := search{gates: newGates(p), reached: map[valves]move{}}
	end, e := s.find(goal)
	if e != api.OK {
		return nil, e
	}
	return s.orders(end), api.OK
}

// find returns the state that reaches the goal first.
func (s *search) find(goal []api.Lit) (valves, api.Errno) {
	first := s.gates.first
	s.reach(first, move{})
	if allOf(first, goal, s.gates.rests) {
		return first, api.OK
	}
	for at, ok := s.next.take(); ok; at, ok = s.next.take() {
		for _, m := range s.moves(at) {
			to := s.behind(m)
			if _, known := s.reached[to]; known {
				continue
			}
			if len(s.reached) == api.MaxStates {
				return valves{}, api.ErrLong
			}
			s.reach(to, m)
			if allOf(to, goal, s.gates.rests) {
				return to, api.OK
			}
		}
	}
	return valves{}, api.ErrNone
}

// reach notes by which move a state is reached first.
func (s *search) reach(v valves, m move) {
	s.reached[v] = m
	s.next.add(v)
}

// moves returns the moves from a state, in their order: the orders that change something and are not refused, then a tick.
func (s *search) moves(from valves) []move {
	var l []move
	for i := range s.gates.travels {
		o := api.Order{Valve: i, Open: !from[i].open}
		if _, ok := s.gates.ordered(from, o); ok {
			l = append(l, move{from, o, true})
		}
	}
	return append(l, move{from: from})
}

// behind returns the state to which a move leads.
func (s *search) behind(m move) valves {
	if !m.ordered {
		return s.gates.moved(m.from, [api.MaxValves]bool{})
	}
	to, _ := s.gates.ordered(m.from, m.order)
	return to
}

// orders returns the orders of the row of moves that leads to a state.
func (s *search) orders(end valves) []api.Order {
	var l []api.Order
	for at := end; at != s.gates.first; at = s.reached[at].from {
		if m := s.reached[at]; m.ordered {
			l = append(l, m.order)
		}
	}
	slices.Reverse(l)
	return l
}
