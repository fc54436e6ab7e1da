package nav

import (
	"ullage/api"
	"ullage/flight"
	"ullage/span"
)

// instrument is what measures: there is a type of each kind.
type instrument interface {
	// read returns what is measured at a motion.
	read(at motion) api.Span
}

type (
	ranging  struct{ from api.Box } // the distance from a place
	receding struct{ from api.Box } // the speed away from a place
	placing  struct{ dir api.Box }  // the product of a direction and the place
	moving   struct{ dir api.Box }  // that of a direction and the velocity
)

func (i ranging) read(at motion) api.Span { return norm(away(at[ofPlace], i.from)) }

func (i receding) read(at motion) api.Span {
	d := away(at[ofPlace], i.from)
	return div(dot(d, at[ofVelocity]), norm(d))
}

func (i placing) read(at motion) api.Span { return dot(i.dir, at[ofPlace]) }

func (i moving) read(at motion) api.Span { return dot(i.dir, at[ofVelocity]) }

// instrumentOf returns what a measurement was made with, nil if there is no such kind.
func instrumentOf(m api.Radio) instrument {
	switch m.Kind {
	case 0:
		return ranging{m.From}
	case 1:
		return receding{m.From}
	case 2:
		return placing{m.Dir}
	case 3:
		return moving{m.Dir}
	}
	return nil
}

// CheckRadio returns ErrArg unless m is valid.
func CheckRadio(m api.Radio) api.Errno {
	if instrumentOf(m) == nil || !valid(m.From[:]...) || !valid(m.Dir[:]...) || !valid(m.Value) {
		return api.ErrArg
	}
	return api.OK
}

// check returns ErrArg unless a state and measurements are valid.
func check(s api.State, l ...api.Radio) api.Errno {
	if e := flight.CheckState(s); e != api.OK {
		return e
	}
	for _, m := range l {
		if e := CheckRadio(m); e != api.OK {
			return e
		}
	}
	return api.OK
}

// Reading returns the reading of a measurement at a state.
func Reading(s api.State, m api.Radio) (api.Span, api.Errno) {
	if e := check(s, m); e != api.OK {
		return api.Span{}, e
	}
	return attempt(func() api.Span { return instrumentOf(m).read(motionOf(s)) })
}

// Agrees returns whether a reading surely is in a measurement's value, or surely is not.
func Agrees(s api.State, m api.Radio) int {
	reading, e := Reading(s, m)
	switch {
	case e != api.OK:
		return 0
	case span.Within(reading, m.Value):
		return 1
	case span.Order(reading, m.Value) != 0:
		return -1
	}
	return 0
}
