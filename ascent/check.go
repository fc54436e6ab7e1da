package ascent

import (
	"ullage/api"
	"ullage/flight"
	"ullage/span"
)

// CheckTask returns ErrArg unless t is valid.
func CheckTask(t api.Ascent) api.Errno {
	// The least int64, which is no number, is negative, too.
	if t.Axial < 0 || t.Bending < 0 || t.Gap < 0 {
		return api.ErrArg
	}
	if flight.CheckPlanet(t.Planet) != api.OK || flight.CheckState(t.Start) != api.OK {
		return api.ErrArg
	}
	if !areWithinOne(t.East) || !areWithinOne(t.Up) || !areParts(t.Parts) {
		return api.ErrArg
	}
	for _, a := range []api.Span{t.Height, t.Speed, t.Climb} {
		if span.Check(a) != api.OK {
			return api.ErrArg
		}
	}
	if len(t.Density) > 0 {
		return span.CheckTable(t.Density)
	}
	return api.OK
}

// areWithinOne reports whether the spans of a direction are valid, and within -1 and 1.
func areWithinOne(b api.Box) bool {
	for _, a := range b {
		if !span.Within(a, fromMinusOne()) {
			return false
		}
	}
	return true
}

// fromMinusOne returns the span from -1 to 1.
func fromMinusOne() api.Span { return api.Span{Lo: -api.One, Hi: api.One} }

// areParts reports whether the parts of a task are valid, and not too many.
func areParts(l []api.Part) bool {
	if len(l) == 0 || len(l) > api.MaxParts {
		return false
	}
	for _, p := range l {
		if !isPart(p) {
			return false
		}
	}
	return true
}

// isPart reports whether a part is valid.
func isPart(p api.Part) bool {
	a := p.Arc
	a.Dir = api.Box{} // that of a part does not matter
	return flight.CheckArc(a) == api.OK && span.Within(p.Pitch, fromMinusOne()) && span.Within(p.Level, api.Span{Hi: api.One})
}

// isCell reports whether c is a cell of a valid task.
func isCell(t api.Ascent, c []api.Knob) bool {
	if len(c) != len(t.Parts) {
		return false
	}
	for i, k := range c {
		if !span.Within(k.Pitch, t.Parts[i].Pitch) || !span.Within(k.Level, t.Parts[i].Level) {
			return false
		}
	}
	return true
}

// checkCell returns ErrArg unless t is valid, and c is a cell of it.
func checkCell(t api.Ascent, c []api.Knob) api.Errno {
	if CheckTask(t) != api.OK || !isCell(t, c) {
		return api.ErrArg
	}
	return api.OK
}
