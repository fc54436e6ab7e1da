package nav

import (
	"iter"
	"slices"

	"ullage/api"
)

// mostWrong is how many measurements may be wrong.
const mostWrong = 2

// isRounds reports whether there may be so many rounds.
func isRounds(n int) bool { return 0 <= n && n <= api.MaxFuse }

// checkFusion returns ErrLong or ErrArg unless the arguments of Fuse are valid.
func checkFusion(s api.State, l []api.Radio, rounds int) api.Errno {
	if len(l) > api.MaxRadios {
		return api.ErrLong
	}
	if !isRounds(rounds) {
		return api.ErrArg
	}
	return check(s, l...)
}

// Fuse cuts a state by measurements, again and again.
func Fuse(s api.State, l []api.Radio, rounds int) (api.State, int, api.Errno) {
	if e := checkFusion(s, l, rounds); e != api.OK {
		return api.State{}, 0, e
	}
	at, used, e := fuse(motionOf(s), l, rounds)
	if e != api.OK {
		return api.State{}, 0, e
	}
	return moved(s, at), used, api.OK
}

// fuse cuts a motion in some rounds, and returns how many there were. Its only error is ErrNone.
func fuse(at motion, l []api.Radio, rounds int) (motion, int, api.Errno) {
	used := 0
	for used < rounds {
		used++
		next, e := round(at, l)
		if e != api.OK {
			return motion{}, 0, e
		}
		if next == at {
			break
		}
		at = next
	}
	return at, used, api.OK
}

// round cuts a motion by all measurements. An error other than ErrNone says nothing about where something is: it cuts nothing.
func round(at motion, l []api.Radio) (motion, api.Errno) {
	for _, m := range l {
		next, e := cut(at, m)
		switch e {
		case api.OK:
			at = next
		case api.ErrNone:
			return motion{}, e
		}
	}
	return at, api.OK
}

// without goes through all choices of a list without so many of its elements; those without an earlier element come first.
func without(l []api.Radio, count int) iter.Seq[[]api.Radio] {
	return func(yield func([]api.Radio) bool) {
		if count == 0 {
			yield(slices.Clone(l))
			return
		}
		for i := range l {
			for rest := range without(l[i+1:], count-1) {
				if !yield(slices.Concat(l[:i], rest)) {
					return
				}
			}
		}
	}
}

// Trust cuts a state by measurements, some of which are wrong.
func Trust(s api.State, l []api.Radio, wrong, rounds int) (api.State, api.Errno) {
	if e := checkFusion(s, l, rounds); e != api.OK {
		return api.State{}, e
	}
	if wrong < 0 || wrong > min(mostWrong, len(l)) {
		return api.State{}, api.ErrArg
	}
	var all motion
	found := false
	for choice := range without(l, wrong) {
		at, _, e := fuse(motionOf(s), choice, rounds)
		if e != api.OK {
			continue
		}
		if !found {
			all, found = at, true
		}
		all = all.hull(at)
	}
	if !found {
		return api.State{}, api.ErrNone
	}
	return moved(s, all), api.OK
}

// hull returns the hulls of the spans of two motions.
func (at motion) hull(with motion) motion {
	for part := range at {
		for axis, a := range at[part] {
			at[part][axis] = hull(a, with[part][axis])
		}
	}
	return at
}

// Suspects returns the measurements without which the others may be right.
func Suspects(s api.State, l []api.Radio, rounds int) ([]int, api.Errno) {
	if e := checkFusion(s, l, rounds); e != api.OK {
		return nil, e
	}
	at := motionOf(s)
	if _, _, e := fuse(at, l, rounds); e == api.OK {
		return nil, api.OK
	}
	var suspects []int
	left := 0
	for choice := range without(l, 1) {
		if _, _, e := fuse(at, choice, rounds); e == api.OK {
			suspects = append(suspects, left)
		}
		left++
	}
	return suspects, api.OK
}
