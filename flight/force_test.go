package flight_test

import (
	"math"
	"testing"

	"ullage/api"
	"ullage/flight"
)

// down is a planet that only pulls, as in the chapter's examples.
func down() api.Planet { return api.Planet{Pull: api.Box{2: point(-api.One / 128)}} }

// TestPull: P3.2, and the chapter's example.
func TestPull(t *testing.T) {
	for _, s := range []api.State{resting(), fullState(), {T: 1, P: box(-1<<30, 1<<30, 0), V: box(1<<30, 0, 0), M: point(1)}} {
		f, e := flight.Force(down(), short(), s)
		want(t, "Force of a pull", f, e, down().Pull, api.OK)
	}
	p := api.Planet{Radius: whole(5), Oblate: whole(1), Pull: api.Box{ints(-1, 1), ints(2, 3), whole(0)}}
	f, e := flight.Force(p, short(), resting())
	want(t, "Force without attraction", f, e, p.Pull, api.OK)
}

// TestAttraction: P3.2.
func TestAttraction(t *testing.T) {
	p := api.Planet{Mu: whole(50)}
	s := api.State{P: box(3, 0, -4), M: whole(1)}
	// s is 2, and u is rounded: 3/5 and 4/5 are no numbers.
	u := [2]api.Num{3 * api.One / 5, 4 * api.One / 5}
	wanted := api.Box{{Lo: -2 * (u[0] + 1), Hi: -2 * u[0]}, whole(0), {Lo: 2 * u[1], Hi: 2 * (u[1] + 1)}}
	f, e := flight.Force(p, short(), s)
	want(t, "Force of a ball", f, e, wanted, api.OK)

	p.Radius = whole(5)
	f, e = flight.Force(p, short(), s)
	want(t, "Force of a ball with a radius", f, e, wanted, api.OK)

	p = api.Planet{Mu: whole(64), Radius: whole(4), Oblate: whole(1), Pull: box(0, 0, 1)}
	s.P = box(0, 0, 8) // c is 1/4, q is 5
	f, e = flight.Force(p, short(), s)
	want(t, "Force above the pole", f, e, api.Box{2: point(api.One - api.One/2)}, api.OK)
	s.P = box(0, 8, 0) // q is 0
	f, e = flight.Force(p, short(), s)
	want(t, "Force above the equator", f, e, api.Box{1: point(-api.One * 5 / 4), 2: whole(1)}, api.OK)
	s.P = box(-8, 0, 0)
	f, e = flight.Force(p, short(), s)
	want(t, "Force above the equator", f, e, api.Box{0: point(api.One * 5 / 4), 2: whole(1)}, api.OK)
}

// TestOrderOfAttraction: P3.2, by roundings. The quotients and products are those of the document, in its order.
func TestOrderOfAttraction(t *testing.T) {
	s := api.State{P: box(0, 0, 3), M: whole(1)}
	f, e := flight.Force(api.Planet{Mu: whole(1)}, short(), s)
	third := api.One / 3 // rounded down; a ninth is rounded twice
	wanted := api.Span{Lo: -((third+1)/3 + 1), Hi: -(third / 3)}
	want(t, "Force of two quotients", f, e, api.Box{2: wanted}, api.OK)
}

// TestTurning: P3.2.
func TestTurning(t *testing.T) {
	s := api.State{P: box(3, 5, 7), V: box(1, 2, 11), M: whole(1)}
	f, e := flight.Force(api.Planet{Spin: whole(2), Pull: box(1, 1, 1)}, short(), s)
	want(t, "Force of turning", f, e, box(1+8+12, 1-4+20, 1), api.OK)
	f, e = flight.Force(api.Planet{Spin: ints(-1, 2)}, short(), s)
	want(t, "Force of turning somehow", f, e, api.Box{ints(-4, 8+12), ints(-4, 2+20), whole(0)}, api.OK)
}

// TestThrust: P3.2.
func TestThrust(t *testing.T) {
	a := short()
	a.Thrust, a.Dir = ints(2, 4), api.Box{whole(1), whole(-1), api.Span{Lo: -api.One / 2, Hi: api.One}}
	a.Flow, a.Drop = whole(1), whole(1)
	f, e := flight.Force(api.Planet{Pull: box(1, 2, 3)}, a, api.State{M: ints(1, 2)})
	want(t, "Force of thrust", f, e, api.Box{ints(2, 5), ints(-2, 1), ints(1, 7)}, api.OK)
}

// TestDrag: P3.2.
func TestDrag(t *testing.T) {
	a := short()
	a.Drag = []api.Point{{At: 0, Value: whole(4)}, {At: 8 * api.One, Value: ints(0, 2)}}
	s := api.State{P: box(3, 4, 0), V: box(0, -3, 4), M: whole(2)}
	for _, c := range []struct {
		radius api.Span
		y, z   api.Span // with |v| = 5
	}{
		{whole(5), whole(30), whole(-40)},                                            // the height 0
		{whole(99), whole(30), whole(-40)},                                           // below the table
		{whole(1), api.Span{Lo: 15 * api.One, Hi: 45 * api.One / 2}, ints(-30, -20)}, // the height 4
		{ints(1, 5), ints(15, 30), ints(-40, -20)},
		{point(0), api.Span{Lo: 45 * api.One / 4, Hi: 165 * api.One / 8}, api.Span{Lo: -55 * api.One / 2, Hi: -15 * api.One}}, // the height 5
	} {
		f, e := flight.Force(api.Planet{Radius: c.radius}, a, s)
		want(t, "Force of drag", f, e, api.Box{1: c.y, 2: c.z}, api.OK)
	}
	f, e := flight.Force(api.Planet{Radius: whole(5), Pull: box(1, 2, 3)}, a, s)
	want(t, "Force of drag and a pull", f, e, box(1, 32, -37), api.OK)
	s.P = box(0, 0, 0)
	f, e = flight.Force(api.Planet{}, a, s)
	want(t, "Force of drag in the centre", f, e, box(0, 30, -40), api.OK)
}

// TestAllForces: P3.2. All forces are summed up.
func TestAllForces(t *testing.T) {
	p := api.Planet{Mu: whole(64), Radius: whole(4), Oblate: whole(1), Spin: whole(1), Pull: box(1, 2, 3)}
	a := short()
	a.Thrust, a.Dir = whole(6), box(1, -1, 0)
	a.Drag = []api.Point{{Value: whole(2)}}
	s := api.State{P: box(0, 0, 8), V: box(0, -3, 4), M: whole(2)}
	// The pull, the attraction, the turning, the thrust (3) and the drag (1 times 5 times v).
	wanted := api.Box{whole(1 - 6 + 3), whole(2 - 3 + 15), point(3*api.One - api.One/2 - 20*api.One)}
	f, e := flight.Force(p, a, s)
	want(t, "Force of all", f, e, wanted, api.OK)
}

// TestForceErrors: P3.2. The first error is the one of the first operation that has one.
func TestForceErrors(t *testing.T) {
	heavy := api.Planet{Mu: whole(1)}
	wide := api.Span{Lo: -huge, Hi: huge}
	thrust := api.Arc{Time: 1, Step: 1, Thrust: whole(1 << 30), Dir: box(1, 0, 0)}
	drag := api.Arc{Time: 1, Step: 1, Drag: []api.Point{{Value: whole(1 << 29)}}}
	thin := api.Arc{Time: 1, Step: 1, Drag: []api.Point{{}}}
	tiny := api.State{P: api.Box{0: point(1 << 20)}, M: whole(1)}
	for _, c := range []struct {
		what string
		p    api.Planet
		a    api.Arc
		s    api.State
		e    api.Errno
	}{
		{"in the centre", heavy, short(), resting(), api.ErrZero},
		{"maybe in the centre", heavy, short(), api.State{P: api.Box{ints(-1, 1), ints(0, 1), ints(-1, 0)}, M: whole(1)}, api.ErrZero},
		{"perhaps attracted, in the centre", api.Planet{Mu: ints(0, 1)}, short(), resting(), api.ErrZero},
		{"not attracted, in the centre", api.Planet{Radius: whole(1), Oblate: whole(1), Spin: whole(1)}, short(), resting(), api.OK},
		{"attracted, too far", heavy, short(), api.State{P: api.Box{2: point(huge)}, M: whole(1)}, api.ErrRange},
		{"braked, too far", api.Planet{}, thin, api.State{P: api.Box{2: point(huge)}, M: whole(1)}, api.ErrRange},
		{"neither, too far", api.Planet{Spin: whole(1)}, short(), api.State{P: api.Box{2: point(huge)}, M: whole(1)}, api.OK},
		{"the distance before the quotient", heavy, short(), api.State{P: api.Box{wide, wide, wide}, M: whole(1)}, api.ErrRange},
		{"the quotient before the turning", api.Planet{Mu: whole(1), Spin: point(huge)}, short(), resting(), api.ErrZero},
		{"the quotient before the thrust", heavy, thrust, api.State{M: point(1)}, api.ErrZero},
		{"the quotient before the drag", heavy, thin, api.State{V: api.Box{wide}, M: whole(1)}, api.ErrZero},
		{"the attraction", api.Planet{Mu: whole(1 << 20)}, short(), tiny, api.ErrRange},
		{"too near to tell from the centre", heavy, short(), api.State{P: api.Box{0: point(1)}, M: whole(1)}, api.ErrZero},
		{"oblate, with a great radius", api.Planet{Mu: point(1), Radius: whole(1 << 30), Oblate: point(1)}, short(), tiny, api.ErrRange},
		{"not oblate, with a great radius", api.Planet{Mu: point(1), Radius: whole(1 << 30)}, short(), tiny, api.OK},
		{"the turning", api.Planet{Spin: point(huge)}, short(), resting(), api.ErrRange},
		{"the thrust", api.Planet{}, thrust, api.State{M: point(1)}, api.ErrRange},
		{"the drag by mass", api.Planet{}, drag, api.State{M: point(1)}, api.ErrRange},
		{"the speed", api.Planet{}, thin, api.State{V: api.Box{wide}, M: whole(1)}, api.ErrRange},
		{"the drag", api.Planet{}, drag, api.State{V: box(2, 0, 0), M: whole(1)}, api.ErrRange},
		{"the sum", api.Planet{Pull: api.Box{1: point(math.MaxInt64)}, Spin: whole(1)}, short(), api.State{P: box(0, 1, 0), M: whole(1)}, api.ErrRange},
	} {
		f, e := flight.Force(c.p, c.a, c.s)
		if e != c.e || e != api.OK && f != (api.Box{}) {
			t.Errorf("Force %s: %v, error %d; want error %d", c.what, f, e, c.e)
		}
	}
}
