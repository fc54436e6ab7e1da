package engine_test

import (
	"slices"
	"strings"
	"testing"

	"ullage/api"
	"ullage/engine"
)

// The kinds of needs, by the chapter.
const (
	content = iota
	pressure
	carried
	place
)

// lit is a literal.
func lit(valve int, open bool) api.Lit { return api.Lit{Valve: valve, Open: open} }

// open and closed are orders.
func open(valve int) api.Order   { return api.Order{Valve: valve, Open: true} }
func closed(valve int) api.Order { return api.Order{Valve: valve} }

// bothOpen is the set of the chapter's second plant.
func bothOpen() []api.Lit { return []api.Lit{lit(0, true), lit(1, true)} }

// example is the chapter's plant, with sets of Never.
func example(never ...[]api.Lit) api.Plant {
	return api.Plant{
		Tanks: []api.Tank{{Name: "a", Room: 100, Least: 10, Limit: 500}, {Name: "b", Room: 100, Least: 10, Limit: 500}},
		Valves: []api.Valve{
			{Name: "v", Travel: 2},
			{Name: "w", Travel: 1},
		},
		Lines: []api.Line{
			{From: 0, To: 1, Flow: 30, Valves: []int{0, 1}},
			{From: -1, To: 0, Flow: 50, Gas: true, Valves: []int{1}},
		},
		Never: never,
	}
}

// name returns a name of so many bytes, which begins with a letter that tells it from others.
func name(i, length int) string {
	return string(rune('a'+i)) + strings.Repeat("-", length-1)
}

// gates is a plant of one tank, with closed valves of these travels.
func gates(travels []int, never ...[]api.Lit) api.Plant {
	p := api.Plant{Tanks: []api.Tank{{Name: "t", Room: 1, Least: 1}}, Never: never}
	for i, t := range travels {
		p.Valves = append(p.Valves, api.Valve{Name: name(i, 1), Travel: t})
	}
	return p
}

// utmost is a valid plant in which everything is as great, and as much, as it may be.
func utmost() api.Plant {
	var p api.Plant
	for i := range api.MaxTanks {
		p.Tanks = append(p.Tanks, api.Tank{Name: name(i, api.MaxName), Room: api.MaxMass, Least: api.MaxMass, Limit: api.MaxMass})
	}
	for i := range api.MaxValves {
		p.Valves = append(p.Valves, api.Valve{Name: name(i, api.MaxName), Travel: api.MaxTravel, Open: i%2 == 1})
	}
	for i := range api.MaxLines {
		p.Lines = append(p.Lines, api.Line{From: i%17 - 1, To: (i+1)%17 - 1, Flow: api.MaxMass, Gas: i%3 == 0, Valves: []int{0, 11, i % 12, 11}})
	}
	for i := range api.MaxRules {
		p.Never = append(p.Never, []api.Lit{lit(i%12, i%2 == 0), lit((i+1)%12, i%2 == 1), lit((i+2)%12, i%2 == 0), lit(11, false)})
	}
	return p
}

// copyOf returns a plant that shares no memory with p.
func copyOf(p api.Plant) api.Plant {
	p.Tanks, p.Valves, p.Lines, p.Never = slices.Clone(p.Tanks), slices.Clone(p.Valves), slices.Clone(p.Lines), slices.Clone(p.Never)
	for i := range p.Lines {
		p.Lines[i].Valves = slices.Clone(p.Lines[i].Valves)
	}
	for i := range p.Never {
		p.Never[i] = slices.Clone(p.Never[i])
	}
	return p
}

// isSame reports whether two plants are equal.
func isSame(p, q api.Plant) bool {
	sameLine := func(a, b api.Line) bool {
		return a.From == b.From && a.To == b.To && a.Flow == b.Flow && a.Gas == b.Gas && slices.Equal(a.Valves, b.Valves)
	}
	return slices.Equal(p.Tanks, q.Tanks) && slices.Equal(p.Valves, q.Valves) && slices.EqualFunc(p.Lines, q.Lines, sameLine) && slices.EqualFunc(p.Never, q.Never, slices.Equal)
}

// start returns a system of a valid plant.
func start(t *testing.T, p api.Plant) *engine.System {
	t.Helper()
	s, e := engine.New(p)
	if e != api.OK || s == nil {
		t.Fatalf("New: error %d", e)
	}
	return s
}

// strangers are systems that New did not return.
func strangers(t *testing.T) map[string]*engine.System {
	another := *start(t, example())
	return map[string]*engine.System{"nil": nil, "zero": {}, "a copy": &another}
}

// do fails the test if a call has an error.
func do(t *testing.T, what string, e api.Errno) {
	t.Helper()
	wantError(t, what, e, api.OK)
}

// wantError checks an error.
func wantError(t *testing.T, what string, e, wanted api.Errno) {
	t.Helper()
	if e != wanted {
		t.Errorf("%s: error %d, want %d", what, e, wanted)
	}
}

// wantNumber checks the number of a need.
func wantNumber(t *testing.T, s *engine.System, kind, of, wanted int) {
	t.Helper()
	n, e := s.Number(api.Need{Kind: kind, Of: of})
	if n != wanted || e != api.OK {
		t.Errorf("number of kind %d of %d: %d, error %d; want %d", kind, of, n, e, wanted)
	}
}

// wantList checks a list.
func wantList[T comparable](t *testing.T, what string, got, wanted []T) {
	t.Helper()
	if !slices.Equal(got, wanted) {
		t.Errorf("%s: %v, want %v", what, got, wanted)
	}
}

// ticks lets n ticks happen.
func ticks(t *testing.T, s *engine.System, n int) {
	t.Helper()
	for range n {
		do(t, "Tick", s.Tick())
	}
}

// sample makes numbers in a fixed order that looks like none.
type sample struct{ state uint64 }

// next returns a number of 64 bits.
func (s *sample) next() uint64 {
	s.state = s.state*6364136223846793005 + 1442695040888963407
	n := s.state
	n ^= n >> 29
	n *= 0xbf58476d1ce4e5b9
	return n ^ n>>32
}

// below returns a number from 0 to below n.
func (s *sample) below(n int) int { return int(s.next() % uint64(n)) }

// from returns a number from low to high.
func (s *sample) from(low, high int) int { return low + s.below(high-low+1) }

// yes returns true once in n times.
func (s *sample) yes(n int) bool { return s.below(n) == 0 }

// order returns an order for one of n valves.
func (s *sample) order(n int) api.Order { return api.Order{Valve: s.below(n), Open: s.yes(2)} }

// lits returns a set of up to 4 literals of n valves.
func (s *sample) lits(n int) []api.Lit {
	var l []api.Lit
	for range s.from(1, 4) {
		l = append(l, lit(s.below(n), s.yes(2)))
	}
	return l
}

// plant returns a valid plant with at most so many tanks, valves and lines; some are small, some have great numbers.
func (s *sample) plant(tanks, valves, lines int) api.Plant {
	most := []int{5, 100, api.MaxMass}[s.below(3)]
	p := api.Plant{}
	for i := range s.from(1, tanks) {
		p.Tanks = append(p.Tanks, api.Tank{Name: name(i, 2), Room: s.from(1, most), Least: s.from(1, most), Limit: s.from(0, most)})
	}
	for i := range s.from(1, valves) {
		p.Valves = append(p.Valves, api.Valve{Name: name(i, 1), Travel: s.from(1, 3), Open: s.yes(2)})
	}
	for range s.below(lines + 1) {
		from := s.from(-1, len(p.Tanks)-1)
		l := api.Line{From: from, To: (from+2+s.below(len(p.Tanks)))%(len(p.Tanks)+1) - 1, Flow: s.from(1, most), Gas: s.yes(2)}
		for range s.from(1, 1+s.below(4)) {
			l.Valves = append(l.Valves, s.below(len(p.Valves)))
		}
		p.Lines = append(p.Lines, l)
	}
	for range s.below(5) {
		set := s.lits(len(p.Valves))
		if !slices.ContainsFunc(set, func(l api.Lit) bool { return l.Open != p.Valves[l.Valve].Open }) {
			continue // it would hold at first
		}
		p.Never = append(p.Never, set)
	}
	return p
}

// maze returns a plant of so many valves, whose sets say of some that they leave their place only behind, or only before others.
func (s *sample) maze(n int) api.Plant {
	p := gates(make([]int, n))
	for i := range p.Valves {
		p.Valves[i].Travel, p.Valves[i].Open = s.from(1, 3), s.yes(2)
	}
	left := func(v int) api.Lit { return lit(v, !p.Valves[v].Open) }
	stays := func(v int) api.Lit { return lit(v, p.Valves[v].Open) }
	for range s.from(1, n) {
		i, j := s.below(n), s.below(n)
		switch s.below(9) {
		case 0:
			p.Never = append(p.Never, []api.Lit{left(i), left(j)})
		case 1:
			p.Never = append(p.Never, []api.Lit{left(i), left(j), stays(s.below(n))})
		default:
			if i != j {
				p.Never = append(p.Never, []api.Lit{left(i), stays(j)})
			}
		}
	}
	return p
}

// goal returns a goal of up to 4 literals, most of which do not hold at first.
func (s *sample) goal(p api.Plant) []api.Lit {
	var l []api.Lit
	for range s.from(1, 4) {
		v := s.below(len(p.Valves))
		l = append(l, lit(v, p.Valves[v].Open == s.yes(8)))
	}
	return l
}
