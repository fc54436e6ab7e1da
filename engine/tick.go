package engine

import (
	"slices"

	"ullage/api"
)

// The kinds of needs.
const (
	needContent = iota
	needPressure
	needCarried
	needPlace
)

// Tick lets a tick happen.
func (s *System) Tick() api.Errno {
	if !s.made() {
		return api.ErrNil
	}
	s.tick()
	return api.OK
}

// tick moves the valves, lets the lines carry, and the tanks leak and vent, in this order.
func (s *System) tick() {
	s.valves = s.gates.moved(s.valves, s.stuck)
	for i, l := range s.plant.Lines {
		if s.isOpen(l) {
			s.carried[i] += s.carry(l)
		}
	}
	for i := range s.tanks {
		s.tanks[i].lose()
		s.vent(i)
	}
}

// isOpen reports whether all valves of a line are open.
func (s *System) isOpen(l api.Line) bool {
	for _, v := range l.Valves {
		if s.valves[v].place < s.gates.travels[v] {
			return false
		}
	}
	return true
}

// carry moves what a line carries at a tick, and returns how much it is.
func (s *System) carry(l api.Line) int {
	n := l.Flow
	if l.From != outside {
		n = min(n, *s.has(l.From, l.Gas))
	}
	if l.To != outside {
		n = min(n, s.room(l.To, l.Gas)-*s.has(l.To, l.Gas))
		*s.has(l.To, l.Gas) += n
	}
	if l.From != outside {
		*s.has(l.From, l.Gas) -= n
	}
	return n
}

// has returns where it is kept how much liquid, or gas, a tank has.
func (s *System) has(tank int, gas bool) *int {
	if gas {
		return &s.tanks[tank].gas
	}
	return &s.tanks[tank].content
}

// room returns how much liquid, or gas, a tank takes.
func (s *System) room(tank int, gas bool) int {
	if gas {
		return api.MaxMass
	}
	return s.plant.Tanks[tank].Room
}

// lose takes from a tank what it leaks at a tick.
func (t *tank) lose() {
	n := min(t.leak, t.content)
	t.content -= n
	t.lost += n
}

// vent takes from a tank as little gas as makes its pressure at most its limit.
func (s *System) vent(i int) {
	t := &s.tanks[i]
	limit := s.plant.Tanks[i].Limit
	if s.pressure(i) <= limit {
		return
	}
	// A pressure is rounded down: it is at most the limit while gas times 100 is below the limit plus 1, times the ullage.
	most := ((limit+1)*s.ullage(i) - 1) / 100
	t.vented += t.gas - most
	t.gas = most
}

// ullage returns the room for gas that is reckoned with.
func (s *System) ullage(i int) int {
	t := s.plant.Tanks[i]
	return max(t.Least, t.Room-s.tanks[i].content)
}

// pressure returns the pressure of a tank.
func (s *System) pressure(i int) int { return s.tanks[i].gas * 100 / s.ullage(i) }

// Number returns the number of a need.
func (s *System) Number(n api.Need) (int, api.Errno) {
	if !s.made() {
		return 0, api.ErrNil
	}
	if !validNeed(s.plant, n) {
		return 0, api.ErrArg
	}
	return s.number(n), api.OK
}

// number returns the number of a valid need.
func (s *System) number(n api.Need) int {
	switch n.Kind {
	case needContent:
		return s.tanks[n.Of].content
	case needPressure:
		return s.pressure(n.Of)
	case needCarried:
		return s.carried[n.Of]
	default:
		return int(s.valves[n.Of].place)
	}
}

// keeps reports whether a valid need is kept.
func (s *System) keeps(n api.Need) bool { return isFrom(s.number(n), n.Low, n.High) }

// Carried returns how much the lines have carried.
func (s *System) Carried() []int {
	if !s.made() {
		return nil
	}
	return slices.Clone(s.carried)
}

// Lost returns how much the tanks have lost.
func (s *System) Lost() []int {
	return s.ofTanks(func(t tank) int { return t.lost })
}

// Vented returns how much gas the tanks have vented.
func (s *System) Vented() []int {
	return s.ofTanks(func(t tank) int { return t.vented })
}

// ofTanks returns a number of each tank.
func (s *System) ofTanks(number func(t tank) int) []int {
	if !s.made() {
		return nil
	}
	var l []int
	for _, t := range s.tanks {
		l = append(l, number(t))
	}
	return l
}
