package flight

import (
	"iter"

	"ullage/api"
)

// Steps returns how many steps an arc has.
func Steps(a api.Arc) (int, api.Errno) {
	if CheckArc(a) != api.OK {
		return 0, api.ErrArg
	}
	n := count(a)
	if n > api.MaxFlown {
		return 0, api.ErrLong
	}
	return n, api.OK
}

// count returns how many steps a valid arc has.
func count(a api.Arc) int {
	n := int(a.Time / a.Step)
	if a.Time%a.Step != 0 {
		n++
	}
	return n
}

// ahead goes through the lengths of an arc's steps.
func ahead(a api.Arc) iter.Seq[api.Num] {
	return func(yield func(api.Num) bool) {
		for range a.Time / a.Step {
			if !yield(a.Step) {
				return
			}
		}
		if left := a.Time % a.Step; left != 0 {
			yield(left)
		}
	}
}

// astern goes through the lengths of an arc's steps on the way back.
func astern(a api.Arc) iter.Seq[api.Num] {
	return func(yield func(api.Num) bool) {
		if left := a.Time % a.Step; left != 0 && !yield(-left) {
			return
		}
		for range a.Time / a.Step {
			if !yield(-a.Step) {
				return
			}
		}
	}
}

// checkFlight returns why a flight is not possible.
func checkFlight(p api.Planet, l []api.Arc, s api.State) api.Errno {
	if CheckPlanet(p) != api.OK || CheckState(s) != api.OK {
		return api.ErrArg
	}
	for _, a := range l {
		if CheckArc(a) != api.OK {
			return api.ErrArg
		}
	}
	if len(l) > api.MaxArcs {
		return api.ErrLong
	}
	left := api.MaxFlown
	for _, a := range l {
		n := count(a)
		if n > left {
			return api.ErrLong
		}
		left -= n
	}
	return api.OK
}

// flown is a flight so far: the state at its end, and what it has come through.
type flown struct {
	now   api.State
	stops []api.State
	tubes []api.Tube
}

// along does the steps of an arc, of some lengths.
func (f *flown) along(p api.Planet, a api.Arc, lengths iter.Seq[api.Num]) api.Errno {
	for h := range lengths {
		next, tube, e := step(p, a, f.now, h)
		if e != api.OK {
			return e
		}
		f.now = next
		f.tubes = append(f.tubes, tube)
	}
	return api.OK
}

// Fly flies along arcs.
func Fly(p api.Planet, l []api.Arc, s api.State) (stops []api.State, tubes []api.Tube, e api.Errno) {
	if e := checkFlight(p, l, s); e != api.OK {
		return nil, nil, e
	}
	f := flown{now: s}
	for _, a := range l {
		if e := f.along(p, a, ahead(a)); e != api.OK {
			return nil, nil, e
		}
		var drop formula
		f.now.M = drop.mass(drop.sub(f.now.M, a.Drop))
		if drop.e != api.OK {
			return nil, nil, drop.e
		}
		f.stops = append(f.stops, f.now)
	}
	return f.stops, f.tubes, api.OK
}

// Back flies back along arcs.
func Back(p api.Planet, l []api.Arc, s api.State) (stops []api.State, tubes []api.Tube, e api.Errno) {
	if e := checkFlight(p, l, s); e != api.OK {
		return nil, nil, e
	}
	f := flown{now: s}
	for i := len(l) - 1; i >= 0; i-- {
		var load formula
		f.now.M = load.add(f.now.M, l[i].Drop)
		if load.e != api.OK {
			return nil, nil, load.e
		}
		if e := f.along(p, l[i], astern(l[i])); e != api.OK {
			return nil, nil, e
		}
		f.stops = append(f.stops, f.now)
	}
	return f.stops, f.tubes, api.OK
}
