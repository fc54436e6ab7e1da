package nav

import (
	"ullage/api"
	"ullage/flight"
)

// Predict moves a state by what was felt.
func Predict(p api.Planet, s api.State, acc api.Box, h api.Num) (api.State, api.Errno) {
	if flight.CheckPlanet(p) != api.OK || flight.CheckState(s) != api.OK || !valid(acc[:]...) || !valid(point(h)) || h == 0 {
		return api.State{}, api.ErrArg
	}
	pull, e := attempt(func() api.Box {
		return api.Box{add(p.Pull[0], acc[0]), add(p.Pull[1], acc[1]), add(p.Pull[2], acc[2])}
	})
	if e != api.OK {
		return api.State{}, e
	}
	p.Pull = pull
	calm := api.Arc{Time: api.One, Step: api.One} // a step depends on neither
	next, _, e := flight.Step(p, calm, s, h)
	return next, e
}

// Follow goes on from update to update.
func Follow(p api.Planet, s api.State, l []api.Update, rounds int) ([]api.State, int, api.Errno) {
	if flight.CheckPlanet(p) != api.OK || flight.CheckState(s) != api.OK || !isRounds(rounds) {
		return nil, 0, api.ErrArg
	}
	if len(l) > api.MaxUpdates {
		return nil, 0, api.ErrLong
	}
	var states []api.State
	for i, u := range l {
		next, e := update(p, s, u, rounds)
		if e != api.OK {
			return states, i, e
		}
		states = append(states, next)
		s = next
	}
	return states, len(l), api.OK
}

// update moves a state by what was felt, and cuts it by what was heard then.
func update(p api.Planet, s api.State, u api.Update, rounds int) (api.State, api.Errno) {
	next, e := Predict(p, s, u.Acc, u.H)
	if e != api.OK {
		return api.State{}, e
	}
	next, _, e = Fuse(next, u.Heard, rounds)
	return next, e
}
