package flight

import (
	"ullage/api"
	"ullage/span"
)

// Step does a step of a state.
func Step(p api.Planet, a api.Arc, s api.State, h api.Num) (next api.State, tube api.Tube, e api.Errno) {
	if CheckPlanet(p) != api.OK || CheckArc(a) != api.OK || CheckState(s) != api.OK || h == 0 || !valid(point(h)) {
		return api.State{}, api.Tube{}, api.ErrArg
	}
	return step(p, a, s, h)
}

// step does a step of a state, if all is valid.
func step(p api.Planet, a api.Arc, s api.State, h api.Num) (api.State, api.Tube, api.Errno) {
	var f formula
	add, sub, mul := f.add, f.sub, f.mul
	by, during := point(h), api.Span{Lo: min(0, h), Hi: max(0, h)}
	t := add(point(s.T), by).Lo
	mass := f.mass(sub(s.M, mul(a.Flow, during)))
	at := f.enclose(p, a, s, during, mass)
	force := f.force(p, a, at, mass)
	k := f.div(mul(by, by), whole(2))
	next := api.State{
		T: t,
		P: each(func(i int) api.Span { return add(add(s.P[i], mul(by, s.V[i])), mul(k, force[i])) }),
		V: each(func(i int) api.Span { return add(s.V[i], mul(by, force[i])) }),
		M: sub(s.M, mul(by, a.Flow)),
	}
	if f.e != api.OK {
		return api.State{}, api.Tube{}, f.e
	}
	return next, api.Tube{From: min(s.T, t), To: max(s.T, t), P: at[ofPlace], V: at[ofVelocity], M: mass}, api.OK
}

// enclose returns where all is during a step. What leads from a motion into this motion again contains all trajectories.
func (f *formula) enclose(p api.Planet, a api.Arc, s api.State, during, mass api.Span) motion {
	add, mul := f.add, f.mul
	tried := motion{s.P, s.V}
	var reached motion
	end := api.ErrState
tries:
	for range api.MaxTries {
		force := f.force(p, a, tried, mass)
		reached = motion{
			each(func(i int) api.Span { return add(s.P[i], mul(during, tried[ofVelocity][i])) }),
			each(func(i int) api.Span { return add(s.V[i], mul(during, force[i])) }),
		}
		wider := f.widen(tried, reached)
		switch {
		case f.e != api.OK:
			break tries
		case wider == tried: // what grows differs: if nothing has to grow, all that is reached is within what was tried
			end = api.OK
			break tries
		}
		tried = wider
	}
	f.fail(end)
	return reached
}

// widen returns a motion, each span of which that does not contain what is reached is made wider.
func (f *formula) widen(tried, reached motion) motion {
	for part, b := range tried {
		for axis, a := range b {
			if !span.Within(reached[part][axis], a) {
				tried[part][axis] = f.grow(a, reached[part][axis])
			}
		}
	}
	return tried
}

// slack is how much a span grows at least at each end: 2^-16.
const slack = 65536

// grow returns the hull of two spans, and a little more.
func (f *formula) grow(a, b api.Span) api.Span {
	hull := f.keep(span.Hull(a, b))
	width, e := span.Wide(hull)
	f.fail(e)
	return f.keep(span.Grow(hull, width/8+slack))
}
