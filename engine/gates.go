package engine

import (
	"slices"

	"ullage/api"
)

// valve is where a valve is, from 0 to its travel, and whether it is wanted open.
type valve struct {
	place int8
	open  bool
}

// valves is the state of all valves of a plant, also as the key of a map; those that the plant does not have are all zero.
type valves [api.MaxValves]valve

// gates is what a plant asks of its valves. The questions about a literal are function values, so that one loop asks each of them of a whole set, in a system as in a search.
type gates struct {
	travels []int8
	first   valves
	never   [][]api.Lit
	holds   func(v valves, l api.Lit) bool
	may     func(v valves, l api.Lit) bool
	rests   func(v valves, l api.Lit) bool // it holds, and its valve is where it is wanted
}

// newGates returns the gates of a plant whose valves, and the literals of Never, are valid.
func newGates(p api.Plant) gates {
	var g gates
	for i, v := range p.Valves {
		travel := int8(v.Travel)
		g.travels = append(g.travels, travel)
		g.first[i] = valve{target(v.Open, travel), v.Open}
	}
	for _, l := range p.Never {
		g.never = append(g.never, slices.Clone(l))
	}
	travels := g.travels
	g.holds = func(v valves, l api.Lit) bool {
		if l.Open {
			return v[l.Valve].place > 0
		}
		return v[l.Valve].place < travels[l.Valve]
	}
	holds := g.holds
	g.may = func(v valves, l api.Lit) bool {
		return holds(v, l) || v[l.Valve].open == l.Open
	}
	g.rests = func(v valves, l api.Lit) bool {
		x := v[l.Valve]
		return holds(v, l) && x.place == target(x.open, travels[l.Valve])
	}
	return g
}

// target returns the place at which a valve of this travel is open, or closed.
func target(open bool, travel int8) int8 {
	if open {
		return travel
	}
	return 0
}

// allOf reports whether the answer is yes for each literal.
func allOf(v valves, l []api.Lit, ask func(v valves, l api.Lit) bool) bool {
	for _, x := range l {
		if !ask(v, x) {
			return false
		}
	}
	return true
}

// allows reports whether no set of Never may hold.
func (g *gates) allows(v valves) bool {
	for _, l := range g.never {
		if allOf(v, l, g.may) {
			return false
		}
	}
	return true
}

// ordered returns the valves behind an order, and whether it is not refused.
func (g *gates) ordered(v valves, o api.Order) (valves, bool) {
	v[o.Valve].open = o.Open
	return v, g.allows(v)
}

// moved returns the valves a tick later; those that are stuck stay.
func (g *gates) moved(v valves, stuck [api.MaxValves]bool) valves {
	for i, travel := range g.travels {
		if stuck[i] {
			continue
		}
		switch to := target(v[i].open, travel); {
		case v[i].place < to:
			v[i].place++
		case v[i].place > to:
			v[i].place--
		}
	}
	return v
}
