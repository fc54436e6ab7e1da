package vehicle

import (
	"iter"
	"slices"

	"ullage/api"
	"ullage/span"
)

// total adds spans up. The bounds of a valid vehicle are too small for a sum of theirs to leave 64 bits.
func total(l iter.Seq[api.Span]) api.Span {
	var all api.Span
	for a := range l {
		all.Lo += a.Lo
		all.Hi += a.Hi
	}
	return all
}

// masses goes through the masses of stages, and of what they carry.
func masses(l []api.Stage, payload api.Span) iter.Seq[api.Span] {
	return func(yield func(api.Span) bool) {
		for _, s := range l {
			if !yield(s.Dry) || !yield(s.Prop) {
				return
			}
		}
		yield(payload)
	}
}

// Total returns the mass of a vehicle at the beginning.
func Total(v api.Vehicle) (api.Span, api.Errno) {
	if !valid(v) {
		return api.Span{}, api.ErrArg
	}
	return total(masses(v.Stages, v.Payload)), api.OK
}

// Mass returns the mass of what still flies.
func Mass(v api.Vehicle, gone int, used api.Span) (api.Span, api.Errno) {
	if !valid(v) {
		return api.Span{}, api.ErrArg
	}
	if !hasStage(v, gone) {
		return api.Span{}, api.ErrNone
	}
	if used.Lo < 0 || used.Lo > used.Hi {
		return api.Span{}, api.ErrArg
	}
	left := slices.Clone(v.Stages[gone:])
	prop := left[0].Prop
	left[0].Prop = api.Span{Lo: max(0, prop.Lo-used.Hi), Hi: max(0, prop.Hi-used.Lo)}
	return total(masses(left, v.Payload)), api.OK
}

// thrusts goes through the thrusts of all engines, a kind at a time.
func thrusts(l []api.Engine) iter.Seq[api.Span] {
	return kinds(l, func(x api.Engine) api.Span { return x.Thrust })
}

// flows goes through the flows of all engines, a kind at a time.
func flows(l []api.Engine) iter.Seq[api.Span] {
	return kinds(l, func(x api.Engine) api.Span { return x.Flow })
}

// kinds goes through what all engines of a kind have together.
func kinds(l []api.Engine, of func(x api.Engine) api.Span) iter.Seq[api.Span] {
	return func(yield func(api.Span) bool) {
		for _, x := range l {
			one, n := of(x), api.Num(x.Count)
			if !yield(api.Span{Lo: n * one.Lo, Hi: n * one.Hi}) {
				return
			}
		}
	}
}

// enginesOf returns the engines of a stage.
func enginesOf(v api.Vehicle, stage int) ([]api.Engine, api.Errno) {
	if !valid(v) {
		return nil, api.ErrArg
	}
	if !hasStage(v, stage) {
		return nil, api.ErrNone
	}
	return v.Stages[stage].Engines, api.OK
}

// Thrust returns the thrust of a stage.
func Thrust(v api.Vehicle, stage int, level api.Span) (api.Span, api.Errno) {
	return throttled(v, stage, level, thrusts)
}

// Flow returns the flow of a stage.
func Flow(v api.Vehicle, stage int, level api.Span) (api.Span, api.Errno) {
	return throttled(v, stage, level, flows)
}

// throttled returns what the engines of a stage have together, at a level.
func throttled(v api.Vehicle, stage int, level api.Span, of func(l []api.Engine) iter.Seq[api.Span]) (api.Span, api.Errno) {
	l, e := enginesOf(v, stage)
	if e != api.OK {
		return api.Span{}, e
	}
	if !isLevel(l, level) {
		return api.Span{}, api.ErrRange
	}
	return span.Mul(total(of(l)), level)
}

// isLevel reports whether all engines can run at all levels of a span, or are off.
func isLevel(l []api.Engine, level api.Span) bool {
	if level.Lo < 0 || level.Lo > level.Hi || level.Hi > api.One {
		return false
	}
	for _, x := range l {
		if level.Hi != 0 && level.Lo < x.Least {
			return false
		}
	}
	return true
}

// Burn returns how long a stage burns.
func Burn(v api.Vehicle, stage int) (api.Span, api.Errno) {
	l, e := enginesOf(v, stage)
	if e != api.OK {
		return api.Span{}, e
	}
	if len(l) == 0 {
		return api.Span{}, api.ErrState
	}
	return span.Div(v.Stages[stage].Prop, total(flows(l)))
}
