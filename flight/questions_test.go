package flight_test

import (
	"testing"

	"ullage/api"
	"ullage/flight"
)

// TestHeight: P3.4.
func TestHeight(t *testing.T) {
	for _, c := range []struct {
		radius api.Span
		place  api.Box
		want   api.Span
		e      api.Errno
	}{
		{whole(6), box(3, 4, 12), whole(7), api.OK},
		{whole(20), box(-3, 4, 12), whole(-7), api.OK},
		{ints(1, 6), api.Box{ints(-3, 3), whole(4), ints(0, 12)}, ints(-2, 12), api.OK},
		{whole(0), box(0, 0, 0), whole(0), api.OK},
		{point(api.MostNum), box(0, 0, 0), point(-api.MostNum), api.OK},
		{whole(0), api.Box{point(huge)}, api.Span{}, api.ErrRange},
		{whole(0), box(40000, 40000, 0), api.Span{}, api.ErrRange},
	} {
		h, e := flight.Height(api.Planet{Radius: c.radius}, c.place)
		want(t, "Height", h, e, c.want, c.e)
	}
}

// TestSpeed: P3.4.
func TestSpeed(t *testing.T) {
	v, e := flight.Speed(box(3, -4, 12))
	want(t, "Speed", v, e, whole(13), api.OK)
	v, e = flight.Speed(api.Box{ints(-3, 2), ints(0, 4), whole(0)})
	want(t, "Speed of spans", v, e, ints(0, 5), api.OK)
	v, e = flight.Speed(api.Box{2: point(-huge)})
	want(t, "Speed that is too great", v, e, api.Span{}, api.ErrRange)
}

// TestClimb: P3.4.
func TestClimb(t *testing.T) {
	for _, c := range []struct {
		what     string
		place, v api.Box
		want     api.Span
		e        api.Errno
	}{
		{"the example", box(3, 4, 0), box(3, 4, 5), whole(5), api.OK},
		{"downwards", box(3, 4, 0), box(-3, -4, 5), whole(-5), api.OK},
		{"of spans", api.Box{ints(3, 4), whole(0), whole(0)}, api.Box{ints(6, 12), whole(1), whole(1)}, api.Span{Lo: 18 * api.One / 4, Hi: 16 * api.One}, api.OK},
		{"in the centre", box(0, 0, 0), box(1, 1, 1), api.Span{}, api.ErrZero},
		{"maybe in the centre", api.Box{ints(-1, 1), ints(0, 1), ints(-1, 0)}, box(1, 1, 1), api.Span{}, api.ErrZero},
		{"too fast in the centre", api.Box{ints(-1, 1), whole(0), whole(0)}, api.Box{point(api.MostNum), point(api.MostNum), whole(0)}, api.Span{}, api.ErrZero},
		{"too great a product, maybe in the centre", api.Box{ints(-2, 2), whole(0), whole(0)}, api.Box{point(api.MostNum), whole(0), whole(0)}, api.Span{}, api.ErrRange},
		{"too far", api.Box{point(huge)}, box(1, 0, 0), api.Span{}, api.ErrRange},
		{"a direction from nearby", api.Box{point(1 << 18)}, api.Box{api.Span{Lo: -huge << 10, Hi: huge << 10}}, api.Span{Lo: -huge << 10, Hi: huge << 10}, api.OK},
		{"too great a quotient", api.Box{{Lo: 1 << 18, Hi: api.One}}, api.Box{point(huge)}, api.Span{}, api.ErrRange},
	} {
		got, e := flight.Climb(c.place, c.v)
		want(t, "Climb, "+c.what, got, e, c.want, c.e)
	}
}

// TestPressure: P3.4.
func TestPressure(t *testing.T) {
	p := api.Planet{Radius: whole(5)}
	density := []api.Point{{At: 0, Value: ints(4, 6)}, {At: 8 * api.One, Value: ints(0, 2)}}
	for _, c := range []struct {
		what   string
		p, v   api.Box
		wanted api.Span
		e      api.Errno
	}{
		{"on the ground", box(3, 4, 0), box(0, 3, 4), ints(50, 75), api.OK},
		{"in the height 8", box(3, 4, 12), box(0, 3, 4), ints(0, 25), api.OK},
		{"at rest", box(3, 4, 0), box(0, 0, 0), whole(0), api.OK},
		{"from the ground to the height 4", api.Box{ints(5, 9), whole(0), whole(0)}, api.Box{ints(-1, 2), whole(0), whole(0)}, ints(0, 12), api.OK},
		{"too fast", box(3, 4, 0), box(40000, 0, 0), api.Span{}, api.ErrRange},
		{"too fast for its norm", box(3, 4, 0), api.Box{point(huge)}, api.Span{}, api.ErrRange},
		{"too far", api.Box{point(huge)}, box(1, 0, 0), api.Span{}, api.ErrRange},
	} {
		got, e := flight.Pressure(p, density, api.Tube{P: c.p, V: c.v, M: whole(1)})
		want(t, "Pressure, "+c.what, got, e, c.wanted, c.e)
	}
	// The speed is rounded, to 6074000999 and 6074001000 times 2^-32, before it is squared.
	got, e := flight.Pressure(api.Planet{}, []api.Point{{Value: whole(2)}}, api.Tube{V: box(1, 1, 0), M: whole(1)})
	want(t, "Pressure of a speed that is no number", got, e, api.Span{Lo: 8589934589, Hi: 8589934593}, api.OK)
}

// TestRises: P3.5.
func TestRises(t *testing.T) {
	at := func(low, high int) api.Tube { return api.Tube{P: api.Box{2: ints(low, high)}, M: whole(1)} }
	far := api.Tube{P: api.Box{point(huge)}, M: whole(1)}
	p := api.Planet{Radius: whole(2)}
	for _, c := range []struct {
		what      string
		l         []api.Tube
		may, sure int
		e         api.Errno
	}{
		{"no tubes", nil, 0, 0, api.ErrNone},
		{"all below", []api.Tube{at(2, 4), at(3, 4)}, 0, 0, api.ErrNone},
		{"maybe only", []api.Tube{at(2, 4), at(3, 5), at(4, 6)}, 1, -1, api.OK},
		{"surely at last", []api.Tube{at(2, 4), at(3, 5), at(4, 6), at(5, 6), at(6, 7)}, 1, 3, api.OK},
		{"surely at once", []api.Tube{at(5, 5), at(1, 9)}, 0, 0, api.OK},
		{"up and down", []api.Tube{at(3, 6), at(1, 2), at(9, 9), at(1, 1)}, 0, 2, api.OK},
		{"an error in front", []api.Tube{far, at(9, 9)}, 0, 0, api.ErrRange},
		{"an error behind", []api.Tube{at(9, 9), far}, 0, 0, api.ErrRange},
		{"an error, and all below", []api.Tube{at(2, 2), far}, 0, 0, api.ErrRange},
		{"a wrong tube behind an error", []api.Tube{far, {}}, 0, 0, api.ErrArg},
	} {
		may, sure, e := flight.Rises(p, c.l, 3*api.One)
		want(t, "Rises, "+c.what, [2]int{may, sure}, e, [2]int{c.may, c.sure}, c.e)
	}
	may, sure, e := flight.Rises(p, []api.Tube{at(0, 0)}, -api.MostNum)
	want(t, "Rises to the least number", [2]int{may, sure}, e, [2]int{0, 0}, api.OK)
	may, sure, e = flight.Rises(p, []api.Tube{at(0, 0)}, api.MostNum)
	want(t, "Rises to the greatest number", [2]int{may, sure}, e, [2]int{}, api.ErrNone)
	may, sure, e = flight.Rises(p, []api.Tube{at(5, 5)}, 3*api.One+1)
	want(t, "Rises a little more", [2]int{may, sure}, e, [2]int{}, api.ErrNone)
}

// TestInside: P3.5.
func TestInside(t *testing.T) {
	all := api.Box{ints(0, 4), ints(0, 4), ints(0, 4)}
	s := api.State{P: all, V: all, M: whole(1)}
	check := func(what string, place, v api.Box, sure, may bool) {
		t.Helper()
		gotSure, gotMay := flight.Inside(s, place, v)
		if gotSure != sure || gotMay != may {
			t.Errorf("%s: %v, %v; want %v, %v", what, gotSure, gotMay, sure, may)
		}
	}
	check("the same", all, all, true, true)
	wide := api.Box{ints(-1, 4), ints(0, 5), ints(-9, 9)}
	check("wider", wide, wide, true, true)
	for i := range 3 {
		for _, c := range []struct {
			a         api.Span
			sure, may bool
		}{
			{ints(0, 3), false, true},
			{ints(1, 4), false, true},
			{ints(2, 2), false, true},
			{ints(4, 9), false, true},
			{ints(-9, 0), false, true},
			{ints(5, 9), false, false},
			{ints(-9, -1), false, false},
			{api.Span{Lo: 4*api.One + 1, Hi: api.MostNum}, false, false},
			{api.Span{Lo: -api.MostNum, Hi: -1}, false, false},
		} {
			part := all
			part[i] = c.a
			check("one span of the place", part, all, c.sure, c.may)
			check("one span of the velocity", all, part, c.sure, c.may)
		}
	}
}

// TestJoint: P3.5.
func TestJoint(t *testing.T) {
	a := api.State{T: 7, P: api.Box{ints(0, 2), ints(0, 2), ints(0, 2)}, V: api.Box{ints(0, 2), ints(0, 2), ints(0, 2)}, M: ints(1, 3)}
	b := api.State{T: 7, P: api.Box{ints(1, 3), ints(-1, 3), ints(2, 2)}, V: api.Box{ints(-1, 0), ints(2, 3), ints(0, 1)}, M: ints(3, 4)}
	wanted := api.State{T: 7, P: api.Box{ints(1, 2), ints(0, 2), ints(2, 2)}, V: api.Box{ints(0, 0), ints(2, 2), ints(0, 1)}, M: ints(3, 3)}
	got, e := flight.Joint(a, b)
	want(t, "Joint", got, e, wanted, api.OK)
	got, e = flight.Joint(b, a)
	want(t, "Joint, the other way round", got, e, wanted, api.OK)
	got, e = flight.Joint(a, a)
	want(t, "Joint of the same", got, e, a, api.OK)
	other := b
	other.T = 8
	got, e = flight.Joint(a, other)
	want(t, "Joint at two times", got, e, api.State{}, api.ErrState)
	other.M = whole(9)
	got, e = flight.Joint(a, other)
	want(t, "Joint of nothing at two times", got, e, api.State{}, api.ErrState)
	for i := range 3 {
		other = b
		other.P[i] = ints(3, 4)
		got, e = flight.Joint(a, other)
		want(t, "Joint of two places", got, e, api.State{}, api.ErrNone)
		other = b
		other.V[i] = ints(-2, -1)
		got, e = flight.Joint(a, other)
		want(t, "Joint of two velocities", got, e, api.State{}, api.ErrNone)
	}
	other = b
	other.M = ints(4, 5)
	got, e = flight.Joint(a, other)
	want(t, "Joint of two masses", got, e, api.State{}, api.ErrNone)
}
