package flight

import (
	"ullage/api"
	"ullage/span"
)

// height returns the heights of places.
func (f *formula) height(p api.Planet, place api.Box) api.Span {
	return f.sub(f.norm(place), p.Radius)
}

// Height returns the heights of places.
func Height(p api.Planet, place api.Box) (api.Span, api.Errno) {
	if CheckPlanet(p) != api.OK || !valid(place[:]...) {
		return api.Span{}, api.ErrArg
	}
	var f formula
	h := f.height(p, place)
	return h, f.e
}

// Speed returns the lengths of velocities.
func Speed(v api.Box) (api.Span, api.Errno) {
	if !valid(v[:]...) {
		return api.Span{}, api.ErrArg
	}
	return span.Norm(v[:])
}

// Climb returns how fast something goes away from the centre.
func Climb(place, v api.Box) (api.Span, api.Errno) {
	if !valid(place[:]...) || !valid(v[:]...) {
		return api.Span{}, api.ErrArg
	}
	var f formula
	c := f.div(f.dot(place, v), f.norm(place))
	return c, f.e
}

// Pressure returns the dynamic pressures in a tube.
func Pressure(p api.Planet, density []api.Point, t api.Tube) (api.Span, api.Errno) {
	if CheckPlanet(p) != api.OK || checkTube(t) != api.OK || span.CheckTable(density) != api.OK {
		return api.Span{}, api.ErrArg
	}
	var f formula
	h, a := f.height(p, t.P), f.norm(t.V)
	q := f.div(f.mul(f.look(density, h), f.square(a)), whole(2))
	return q, f.e
}

// Rises returns the first tubes that may be, and that surely are, at least so high.
func Rises(p api.Planet, l []api.Tube, height api.Num) (may, sure int, e api.Errno) {
	if CheckPlanet(p) != api.OK || !valid(point(height)) {
		return 0, 0, api.ErrArg
	}
	for _, t := range l {
		if checkTube(t) != api.OK {
			return 0, 0, api.ErrArg
		}
	}
	may, sure = -1, -1
	// An error behind these tubes counts, too: all heights are needed.
	for i, t := range l {
		h, e := Height(p, t.P)
		if e != api.OK {
			return 0, 0, e
		}
		if may < 0 && h.Hi >= height {
			may = i
		}
		if sure < 0 && h.Lo >= height {
			sure = i
		}
	}
	if may < 0 {
		return 0, 0, api.ErrNone
	}
	return may, sure, api.OK
}

// Inside reports whether a state surely is, and whether it may be, within boxes.
func Inside(s api.State, place, v api.Box) (sure, may bool) {
	if CheckState(s) != api.OK || !valid(place[:]...) || !valid(v[:]...) {
		return false, false
	}
	sure, may = true, true
	boxes := motion{place, v}
	for part, b := range (motion{s.P, s.V}) {
		for axis, a := range b {
			in := boxes[part][axis]
			sure = sure && span.Within(a, in)
			may = may && span.Order(a, in) == 0
		}
	}
	return sure, may
}

// Joint returns what two states have in common.
func Joint(a, b api.State) (api.State, api.Errno) {
	if CheckState(a) != api.OK || CheckState(b) != api.OK {
		return api.State{}, api.ErrArg
	}
	if a.T != b.T {
		return api.State{}, api.ErrState
	}
	var f formula
	meet := f.meet
	joint := api.State{
		T: a.T,
		P: each(func(i int) api.Span { return meet(a.P[i], b.P[i]) }),
		V: each(func(i int) api.Span { return meet(a.V[i], b.V[i]) }),
		M: meet(a.M, b.M),
	}
	if f.e != api.OK {
		return api.State{}, f.e
	}
	return joint, api.OK
}
