package safety

import (
	"slices"

	"ullage/api"
)

// Why a unit decides to destruct.
const (
	whyOutside = 1
	whyDoubt   = 2
)

// Unit decides when a flight has to be ended.
type Unit struct {
	plan
	self            *Unit // only NewUnit sets it, so that neither a copy nor one made elsewhere is a unit
	safed, destruct bool
	known           bool
	at              api.Rect
	doubt           int
}

// plan is what a unit needs of its plan, in memory of its own.
type plan struct {
	allowed        []api.Spot
	rate, patience int
}

// NewUnit returns a unit.
func NewUnit(p api.Safety) (*Unit, api.Errno) {
	if !CheckPlan(p) {
		return nil, api.ErrArg
	}
	u := &Unit{plan: plan{slices.Clone(p.Allowed.Corners), p.Rate, p.Patience}}
	u.self = u
	return u, api.OK
}

// ready returns the error of a unit that decides nothing.
func (u *Unit) ready() api.Errno {
	switch {
	case u == nil || u.self != u:
		return api.ErrNil
	case u.safed || u.destruct:
		return api.ErrState
	}
	return api.OK
}

// Tick returns the verdict of a tick.
func (u *Unit) Tick(r api.Rect, there bool) (api.Verdict, api.Errno) {
	if e := u.ready(); e != api.OK {
		return api.Verdict{}, e
	}
	if there && !validRect(r) {
		return api.Verdict{}, api.ErrArg
	}
	switch {
	case there:
		u.at, u.known = r, true
	case u.known:
		u.at = u.drifted(u.at)
	}
	why := u.decide()
	u.destruct = why != 0
	return api.Verdict{Destruct: u.destruct, Why: why, Known: u.known, At: u.at}, api.OK
}

// drifted returns where the impact point may be, a tick after it was in a rect.
func (p plan) drifted(r api.Rect) api.Rect {
	r = grown(r, p.rate)
	for _, n := range []*int{&r.Low.X, &r.Low.Y, &r.High.X, &r.High.Y} {
		*n = min(max(*n, -farthest), farthest)
	}
	return r
}

// decide returns why the flight has to be ended, 0 if it has not, and keeps count of the doubt.
func (u *Unit) decide() int {
	side := unsure
	if u.known {
		side = sideOf(u.allowed, u.at)
	}
	switch side {
	case outside:
		return whyOutside
	case inside:
		u.doubt = 0
		return 0
	}
	u.doubt++
	if u.doubt > u.patience {
		return whyDoubt
	}
	return 0
}

// Safe makes a unit decide nothing any more.
func (u *Unit) Safe() api.Errno {
	if e := u.ready(); e != api.OK {
		return e
	}
	u.safed = true
	return api.OK
}

// Doubt returns for how many ticks a unit has been in doubt.
func (u *Unit) Doubt() int {
	if u.ready() == api.ErrNil {
		return 0
	}
	return u.doubt
}
