package engine

import "ullage/api"

// Limits that have no name in api.
const (
	maxPipe  = 4  // valves of a line, literals of a set of Never
	maxList  = 16 // orders and needs of a step, redlines, orders of an abort, literals of a goal
	maxWrong = 64 // things that go wrong in a run
	outside  = -1 // where a line comes from or goes to, if it is no tank
)

// isFrom reports whether a number is from low to high.
func isFrom(n, low, high int) bool { return low <= n && n <= high }

// isIndex reports whether n is an index of a list of this length.
func isIndex(n, length int) bool { return isFrom(n, 0, length-1) }

// CheckPlant reports whether a plant is valid.
func CheckPlant(p api.Plant) bool {
	return validTanks(p.Tanks) && validValves(p.Valves) && validLines(p) && validNever(p)
}

// validTanks reports whether the tanks of a plant are valid.
func validTanks(l []api.Tank) bool {
	if !isFrom(len(l), 1, api.MaxTanks) {
		return false
	}
	names := map[string]bool{}
	for _, t := range l {
		if !isNewName(names, t.Name) || !isFrom(t.Room, 1, api.MaxMass) || !isFrom(t.Least, 1, api.MaxMass) || !isFrom(t.Limit, 0, api.MaxMass) {
			return false
		}
	}
	return true
}

// validValves reports whether the valves of a plant are valid.
func validValves(l []api.Valve) bool {
	if !isFrom(len(l), 1, api.MaxValves) {
		return false
	}
	names := map[string]bool{}
	for _, v := range l {
		if !isNewName(names, v.Name) || !isFrom(v.Travel, 1, api.MaxTravel) {
			return false
		}
	}
	return true
}

// isNewName reports whether a name is valid and none of those before it, and adds it to them.
func isNewName(names map[string]bool, name string) bool {
	if !isFrom(len(name), 1, api.MaxName) || names[name] {
		return false
	}
	names[name] = true
	return true
}

// validLines reports whether the lines of a plant, whose tanks and valves are valid, are valid.
func validLines(p api.Plant) bool {
	if len(p.Lines) > api.MaxLines {
		return false
	}
	last := len(p.Tanks) - 1
	for _, l := range p.Lines {
		if !isFrom(l.From, outside, last) || !isFrom(l.To, outside, last) || l.From == l.To || !isFrom(l.Flow, 1, api.MaxMass) || !isFrom(len(l.Valves), 1, maxPipe) {
			return false
		}
		for _, v := range l.Valves {
			if !isIndex(v, len(p.Valves)) {
				return false
			}
		}
	}
	return true
}

// validNever reports whether the sets of Never of a plant, whose valves are valid, are valid, and none may hold at first.
func validNever(p api.Plant) bool {
	if len(p.Never) > api.MaxRules {
		return false
	}
	for _, l := range p.Never {
		if !isFrom(len(l), 1, maxPipe) || !validLits(p, l) {
			return false
		}
	}
	g := newGates(p)
	return g.allows(g.first)
}

// validLits reports whether all literals are of valves of the plant.
func validLits(p api.Plant, l []api.Lit) bool {
	for _, x := range l {
		if !isIndex(x.Valve, len(p.Valves)) {
			return false
		}
	}
	return true
}

// CheckSequence reports whether a sequence is valid for a plant.
func CheckSequence(p api.Plant, q api.Sequence) bool {
	return CheckPlant(p) && validSequence(p, q)
}

// validSequence reports whether a sequence is valid for a valid plant.
func validSequence(p api.Plant, q api.Sequence) bool {
	return validSteps(p, q.Steps) && validRedlines(p, q.Redlines) && validOrders(p, q.Abort)
}

// validSteps reports whether the steps of a sequence are valid.
func validSteps(p api.Plant, l []api.Step) bool {
	if len(l) > api.MaxSteps {
		return false
	}
	before := 0
	for _, s := range l {
		if !isFrom(s.At, before, api.MaxTicks) || !validOrders(p, s.Orders) || len(s.Needs) > maxList {
			return false
		}
		for _, n := range s.Needs {
			if !validNeed(p, n) {
				return false
			}
		}
		before = s.At
	}
	return true
}

// validRedlines reports whether the redlines of a sequence are valid.
func validRedlines(p api.Plant, l []api.Redline) bool {
	if len(l) > maxList {
		return false
	}
	for _, r := range l {
		if !validNeed(p, r.Need) || !isFrom(r.Ticks, 0, api.MaxTicks) {
			return false
		}
	}
	return true
}

// validOrders reports whether a list of orders is short enough, and each is for a valve of the plant.
func validOrders(p api.Plant, l []api.Order) bool {
	if len(l) > maxList {
		return false
	}
	for _, o := range l {
		if !isIndex(o.Valve, len(p.Valves)) {
			return false
		}
	}
	return true
}

// validNeed reports whether a need is of something that the plant has.
func validNeed(p api.Plant, n api.Need) bool {
	switch n.Kind {
	case needContent, needPressure:
		return isIndex(n.Of, len(p.Tanks))
	case needCarried:
		return isIndex(n.Of, len(p.Lines))
	case needPlace:
		return isIndex(n.Of, len(p.Valves))
	}
	return false
}

// validDisorders reports whether all that goes wrong is valid for a plant, and not too much.
func validDisorders(p api.Plant, l []api.Disorder) bool {
	if len(l) > maxWrong {
		return false
	}
	for _, d := range l {
		if !isFrom(d.At, 0, api.MaxTicks) || !validVictim(p, d) || !isFrom(d.Rate, 0, api.MaxMass) {
			return false
		}
	}
	return true
}

// validVictim reports whether the plant has what goes wrong.
func validVictim(p api.Plant, d api.Disorder) bool {
	switch d.Kind {
	case wrongValve:
		return isIndex(d.Of, len(p.Valves))
	case wrongTank:
		return isIndex(d.Of, len(p.Tanks))
	}
	return false
}
