package flight

import (
	"ullage/api"
	"ullage/span"
)

// CheckPlanet returns ErrArg unless p is valid.
func CheckPlanet(p api.Planet) api.Errno {
	if !notNegative(p.Mu, p.Radius) || !valid(p.Oblate, p.Spin) || !valid(p.Pull[:]...) {
		return api.ErrArg
	}
	return api.OK
}

// CheckState returns ErrArg unless s is valid.
func CheckState(s api.State) api.Errno {
	if !valid(point(s.T)) || !isMoving(s.P, s.V, s.M) {
		return api.ErrArg
	}
	return api.OK
}

// CheckArc returns ErrArg unless a is valid.
func CheckArc(a api.Arc) api.Errno {
	if a.Time <= 0 || a.Step <= 0 || !notNegative(a.Thrust, a.Flow, a.Drop) {
		return api.ErrArg
	}
	for _, d := range a.Dir {
		if !span.Within(d, api.Span{Lo: -api.One, Hi: api.One}) {
			return api.ErrArg
		}
	}
	if len(a.Drag) > 0 {
		return span.CheckTable(a.Drag)
	}
	return api.OK
}

// checkTube returns ErrArg unless t is valid.
func checkTube(t api.Tube) api.Errno {
	// Times have to be like the ends of a span: valid, and in order.
	if !valid(api.Span{Lo: t.From, Hi: t.To}) || !isMoving(t.P, t.V, t.M) {
		return api.ErrArg
	}
	return api.OK
}

// isMoving reports whether a place, a velocity and a mass are valid.
func isMoving(p, v api.Box, m api.Span) bool {
	return valid(p[:]...) && valid(v[:]...) && valid(m) && isMass(m)
}

// isMass reports whether a valid span has only numbers above 0.
func isMass(m api.Span) bool { return m.Lo > 0 }

// valid reports whether all of some spans are valid.
func valid(l ...api.Span) bool {
	for _, a := range l {
		if span.Check(a) != api.OK {
			return false
		}
	}
	return true
}

// notNegative reports whether all of some spans are valid, without negative numbers.
func notNegative(l ...api.Span) bool {
	for _, a := range l {
		if !valid(a) || a.Lo < 0 {
			return false
		}
	}
	return true
}
