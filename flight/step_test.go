package flight_test

import (
	"testing"

	"ullage/api"
	"ullage/flight"
)

// half is what is 2^-n.
func half(n int) api.Num { return api.One >> n }

// thrown is a state that is thrown up.
func thrown() api.State { return api.State{V: box(1, 0, 1), M: whole(1)} }

// TestStepOfAPull: P3.2, and the chapter's example. The tube is the one of the second try.
func TestStepOfAPull(t *testing.T) {
	s := thrown()
	s.T = -3 * api.One
	next, tube, e := flight.Step(down(), short(), s, 16*api.One)
	want(t, "the new state", next, e, api.State{T: 13 * api.One, P: box(16, 0, 15), V: api.Box{whole(1), whole(0), point(api.One * 7 / 8)}, M: whole(1)}, api.OK)
	// At the first try the upward velocities, 7/8 to 1, are 1/8 wide: they grow by 1/64, and by 2^-16.
	up := api.One + half(6) + half(16)
	want(t, "the tube", tube, e, api.Tube{
		From: -3 * api.One, To: 13 * api.One,
		P: api.Box{ints(0, 16), whole(0), {Hi: 16 * up}},
		V: api.Box{whole(1), whole(0), {Lo: api.One * 7 / 8, Hi: api.One}},
		M: whole(1),
	}, api.OK)
	there, tube, e := flight.Step(down(), short(), next, -16*api.One)
	want(t, "the old state", there, e, s, api.OK)
	want(t, "the tube of the way back", tube, e, api.Tube{
		From: -3 * api.One, To: 13 * api.One,
		P: api.Box{ints(0, 16), whole(0), {Lo: 15*api.One - 16*up, Hi: 15 * api.One}},
		V: api.Box{whole(1), whole(0), {Lo: api.One * 7 / 8, Hi: api.One}},
		M: whole(1),
	}, api.OK)
}

// TestStepAtRest: P3.2. Nothing moves: the first try has the tube.
func TestStepAtRest(t *testing.T) {
	s := api.State{T: 5, P: box(1, 2, 3), M: ints(1, 2)}
	for _, h := range []api.Num{1, api.One, 1000 * api.One, -1, -api.One} {
		next, tube, e := flight.Step(api.Planet{}, short(), s, h)
		want(t, "the new state", next, e, api.State{T: 5 + h, P: s.P, M: s.M}, api.OK)
		want(t, "the tube", tube, e, api.Tube{From: min(5, 5+h), To: max(5, 5+h), P: s.P, M: s.M}, api.OK)
	}
}

// TestStepOfSpans: P3.2. The spans that contain what is reached stay, the others grow on both sides.
func TestStepOfSpans(t *testing.T) {
	s := api.State{P: api.Box{ints(0, 8), whole(0), ints(-4, 4)}, V: api.Box{whole(0), ints(-1, 1), whole(0)}, M: whole(1)}
	next, tube, e := flight.Step(api.Planet{}, short(), s, 2*api.One)
	want(t, "the new state", next, e, api.State{T: 2 * api.One, P: api.Box{ints(0, 8), ints(-2, 2), ints(-4, 4)}, V: s.V, M: s.M}, api.OK)
	want(t, "the tube", tube, e, api.Tube{To: 2 * api.One, P: next.P, V: s.V, M: s.M}, api.OK)
}

// TestStepMass: P3.2. The thrust is reckoned with all masses that there are during the step.
func TestStepMass(t *testing.T) {
	a := short()
	a.Thrust, a.Flow, a.Dir, a.Drop = whole(6), ints(1, 2), box(0, 0, 1), whole(7)
	s := api.State{M: ints(6, 8)}
	next, tube, e := flight.Step(api.Planet{}, a, s, 2*api.One)
	wanted := api.State{T: 2 * api.One, M: ints(2, 6)}
	wanted.P[2] = api.Span{Lo: 2 * api.One * 6 / 8, Hi: 6 * api.One}
	wanted.V[2] = api.Span{Lo: 2 * api.One * 6 / 8, Hi: 6 * api.One}
	want(t, "the new state", next, e, wanted, api.OK)
	want(t, "the tube's mass", tube.M, e, ints(2, 8), api.OK)
	next, tube, e = flight.Step(api.Planet{}, a, s, -2*api.One)
	want(t, "the old mass", next.M, e, ints(8, 12), api.OK)
	want(t, "the tube's mass on the way back", tube.M, e, ints(6, 12), api.OK)
	want(t, "the old velocity", next.V[2], e, api.Span{Lo: -2 * api.One, Hi: -api.One}, api.OK)
}

// TestStepEnds: P3.2. How much mass there has to be, and at which times a step may end.
func TestStepEnds(t *testing.T) {
	a := short()
	a.Flow = ints(0, 3)
	next, tube, e := flight.Step(api.Planet{}, a, api.State{M: point(6*api.One + 1)}, 2*api.One)
	want(t, "the least mass that may be left", next.M, e, api.Span{Lo: 1, Hi: 6*api.One + 1}, api.OK)
	want(t, "the tube's least mass", tube.M, e, api.Span{Lo: 1, Hi: 6*api.One + 1}, api.OK)
	next, tube, e = flight.Step(api.Planet{}, a, api.State{M: whole(6)}, 2*api.One)
	failed(t, "no mass left", next, tube, e, api.ErrRange)
	next, tube, e = flight.Step(api.Planet{}, a, api.State{M: whole(5)}, 2*api.One)
	failed(t, "less than no mass left", next, tube, e, api.ErrRange)
	next, tube, e = flight.Step(api.Planet{}, a, api.State{M: point(api.MostNum)}, -api.One)
	failed(t, "too much mass before", next, tube, e, api.ErrRange)
	next, tube, e = flight.Step(api.Planet{}, a, api.State{M: point(api.MostNum)}, api.MostNum)
	failed(t, "too great a flow", next, tube, e, api.ErrRange)

	for _, c := range []struct{ t, h api.Num }{{api.MostNum - 5, 5}, {-api.MostNum + 5, -5}, {-5, 5}} {
		s := resting()
		s.T = c.t
		next, tube, e = flight.Step(api.Planet{}, short(), s, c.h)
		want(t, "the new state", next, e, api.State{T: c.t + c.h, M: whole(1)}, api.OK)
		want(t, "the tube", tube, e, api.Tube{From: min(c.t, c.t+c.h), To: max(c.t, c.t+c.h), M: whole(1)}, api.OK)
	}
	heavy := api.Planet{Mu: whole(1)}
	for _, c := range []struct{ t, h api.Num }{{api.MostNum - 5, 6}, {-api.MostNum + 5, -6}, {api.MostNum, api.MostNum}, {-api.MostNum, -api.MostNum}} {
		s := resting()
		s.T = c.t
		for _, p := range []api.Planet{{}, heavy} {
			next, tube, e = flight.Step(p, short(), s, c.h)
			failed(t, "no time to end, which is asked for first", next, tube, e, api.ErrRange)
		}
	}
	for _, h := range []api.Num{0, noNumber} {
		s := resting()
		s.T = api.MostNum
		next, tube, e = flight.Step(heavy, short(), s, h)
		failed(t, "no length", next, tube, e, api.ErrArg)
	}
}

// TestStepErrors: P3.2.
func TestStepErrors(t *testing.T) {
	spinning := func(w int) api.Planet { return api.Planet{Spin: whole(w)} }
	heavy := api.Planet{Mu: whole(1)}
	empty := short()
	empty.Flow = whole(1)
	for _, c := range []struct {
		what string
		p    api.Planet
		a    api.Arc
		s    api.State
		h    api.Num
		e    api.Errno
	}{
		{"no tube", spinning(1), short(), api.State{P: box(1, 0, 0), M: whole(1)}, 2 * api.One, api.ErrState},
		{"no tube on the way back", spinning(1), short(), api.State{P: box(1, 0, 0), M: whole(1)}, -2 * api.One, api.ErrState},
		{"a tube that is too wide", spinning(30), short(), api.State{P: box(1, 0, 0), M: whole(1)}, 100 * api.One, api.ErrRange},
		{"in the centre", heavy, short(), resting(), 1, api.ErrZero},
		{"without mass in the centre", heavy, empty, resting(), api.One, api.ErrRange},
		{"maybe through the centre", heavy, short(), api.State{P: box(2, 0, 0), V: box(-1, 0, 0), M: whole(1)}, 3 * api.One, api.ErrZero},
		{"too long a way", api.Planet{}, short(), thrown(), 1 << 62, api.ErrRange},
		{"too long a fall", down(), short(), resting(), 1 << 62, api.ErrRange},
		{"too long at rest, for the half of its square", api.Planet{}, short(), resting(), 1 << 48, api.ErrRange},
		{"too wide a place", api.Planet{}, short(), api.State{P: api.Box{{Lo: -api.MostNum, Hi: api.MostNum - api.One}}, V: box(1, 0, 0), M: whole(1)}, api.One, api.ErrRange},
	} {
		next, tube, e := flight.Step(c.p, c.a, c.s, c.h)
		failed(t, c.what, next, tube, e, c.e)
	}
	next, _, e := flight.Step(api.Planet{}, short(), resting(), 1<<47)
	want(t, "as long at rest as can be", next, e, api.State{T: 1 << 47, M: whole(1)}, api.OK)
}
