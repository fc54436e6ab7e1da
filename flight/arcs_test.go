package flight_test

import (
	"slices"
	"testing"

	"ullage/api"
	"ullage/flight"
)

// staged are three arcs with different steps, flows and drops.
func staged() []api.Arc {
	l := []api.Arc{calm(5*api.One, 2*api.One), calm(4*api.One, 2*api.One), calm(api.One, 3*api.One)}
	l[0].Flow, l[0].Drop = whole(2), whole(3)
	l[1].Flow, l[1].Drop = whole(1), ints(1, 2)
	return l
}

// times returns the times of tubes, of so many seconds.
func times(seconds ...int) [][2]api.Num {
	var l [][2]api.Num
	for i := range seconds[1:] {
		l = append(l, [2]api.Num{api.Num(seconds[i]) * api.One, api.Num(seconds[i+1]) * api.One})
	}
	return l
}

// timesOf returns the times of some tubes.
func timesOf(l []api.Tube) [][2]api.Num {
	var out [][2]api.Num
	for _, t := range l {
		out = append(out, [2]api.Num{t.From, t.To})
	}
	return out
}

// massesOf returns the masses of some tubes.
func massesOf(l []api.Tube) []api.Span {
	var out []api.Span
	for _, t := range l {
		out = append(out, t.M)
	}
	return out
}

// TestFly: P3.3.
func TestFly(t *testing.T) {
	s := api.State{T: 10 * api.One, V: box(1, 0, 0), M: whole(20)}
	stops, tubes, e := flight.Fly(api.Planet{}, staged(), s)
	wanted := []api.State{
		{T: 15 * api.One, P: box(5, 0, 0), V: s.V, M: whole(7)},
		{T: 19 * api.One, P: box(9, 0, 0), V: s.V, M: ints(1, 2)},
		{T: 20 * api.One, P: box(10, 0, 0), V: s.V, M: ints(1, 2)},
	}
	if e != api.OK || !slices.Equal(stops, wanted) {
		t.Errorf("the stops are %v, error %d; want %v", stops, e, wanted)
	}
	if got := timesOf(tubes); !slices.Equal(got, times(10, 12, 14, 15, 17, 19, 20)) {
		t.Errorf("the tubes are at %v", got)
	}
	// The last tube of an arc has the mass before the drop.
	if masses := massesOf(tubes); !slices.Equal(masses, []api.Span{ints(16, 20), ints(12, 16), ints(10, 12), ints(5, 7), ints(3, 5), ints(1, 2)}) {
		t.Errorf("the masses are %v", masses)
	}
}

// TestBack: P3.3.
func TestBack(t *testing.T) {
	s := api.State{T: 20 * api.One, P: box(10, 0, 0), V: box(1, 0, 0), M: ints(1, 2)}
	stops, tubes, e := flight.Back(api.Planet{}, staged(), s)
	wanted := []api.State{
		{T: 19 * api.One, P: box(9, 0, 0), V: s.V, M: ints(1, 2)},
		{T: 15 * api.One, P: box(5, 0, 0), V: s.V, M: ints(6, 8)},
		{T: 10 * api.One, P: box(0, 0, 0), V: s.V, M: ints(19, 21)},
	}
	if e != api.OK || !slices.Equal(stops, wanted) {
		t.Errorf("the stops are %v, error %d; want %v", stops, e, wanted)
	}
	// What is left of the first arc, 1 s, is done before its steps of 2 s.
	if got := timesOf(tubes); !slices.Equal(got, [][2]api.Num{times(19, 20)[0], times(17, 19)[0], times(15, 17)[0], times(14, 15)[0], times(12, 14)[0], times(10, 12)[0]}) {
		t.Errorf("the tubes are at %v", got)
	}
	// The drop of an arc is there in its tubes.
	if masses := massesOf(tubes); !slices.Equal(masses, []api.Span{ints(1, 2), ints(2, 6), ints(4, 8), ints(9, 13), ints(11, 17), ints(15, 21)}) {
		t.Errorf("the masses are %v", masses)
	}
}

// TestFlightIsSteps: P3.3. A flight is the steps of its arcs, one after another, to the letter.
func TestFlightIsSteps(t *testing.T) {
	p, l := earth(), climb()
	stops, tubes, e := flight.Fly(p, l, onGround())
	if e != api.OK || len(stops) != len(l) {
		t.Fatalf("%d stops, error %d", len(stops), e)
	}
	s, i := onGround(), 0
	for k, a := range l {
		n, _ := flight.Steps(a)
		for j := range n {
			h := min(a.Step, a.Time-api.Num(j)*a.Step)
			next, tube, e := flight.Step(p, a, s, h)
			want(t, "the tube", tubes[i], e, tube, api.OK)
			s = next
			i++
		}
		s.M = api.Span{Lo: s.M.Lo - a.Drop.Hi, Hi: s.M.Hi - a.Drop.Lo}
		want(t, "the stop", stops[k], api.OK, s, api.OK)
	}
	if i != len(tubes) {
		t.Errorf("%d tubes, but %d steps", len(tubes), i)
	}
	backStops, backTubes, e := flight.Back(p, l, s)
	if e != api.OK || len(backStops) != len(l) || len(backTubes) != len(tubes) {
		t.Fatalf("back: %d stops, %d tubes, error %d", len(backStops), len(backTubes), e)
	}
	i = 0
	for k := range l {
		a := l[len(l)-1-k]
		s.M = api.Span{Lo: s.M.Lo + a.Drop.Lo, Hi: s.M.Hi + a.Drop.Hi}
		n, _ := flight.Steps(a)
		for j := n - 1; j >= 0; j-- {
			h := min(a.Step, a.Time-api.Num(j)*a.Step)
			next, tube, e := flight.Step(p, a, s, -h)
			want(t, "the tube of the way back", backTubes[i], e, tube, api.OK)
			s = next
			i++
		}
		want(t, "the stop of the way back", backStops[k], api.OK, s, api.OK)
	}
}

// TestNoArcs: P3.3.
func TestNoArcs(t *testing.T) {
	for _, l := range [][]api.Arc{nil, {}} {
		stops, tubes, e := flight.Fly(fullPlanet(), l, fullState())
		grounded(t, "no arcs", stops, tubes, e, api.OK)
		stops, tubes, e = flight.Back(fullPlanet(), l, fullState())
		grounded(t, "no arcs back", stops, tubes, e, api.OK)
		stops, tubes, e = flight.Fly(fullPlanet(), l, api.State{})
		grounded(t, "no arcs, no state", stops, tubes, e, api.ErrArg)
		stops, tubes, e = flight.Back(wrongPlanets()[0], l, fullState())
		grounded(t, "no arcs, a wrong planet", stops, tubes, e, api.ErrArg)
	}
}

// TestLongFlights: P3.3.
func TestLongFlights(t *testing.T) {
	long := calm(api.MostNum, 1)
	wrong := api.Arc{}
	for _, c := range []struct {
		what string
		l    []api.Arc
		e    api.Errno
		n    int
	}{
		{"one arc with all steps", []api.Arc{calm(api.MaxFlown, 1)}, api.OK, api.MaxFlown},
		{"an arc with a step more", []api.Arc{calm(api.MaxFlown+1, 1)}, api.ErrLong, 0},
		{"all arcs with all steps", slices.Repeat([]api.Arc{calm(2*128-1, 2)}, api.MaxArcs), api.OK, api.MaxFlown},
		{"all arcs with a step more", append(slices.Repeat([]api.Arc{calm(128, 1)}, api.MaxArcs-1), calm(129, 1)), api.ErrLong, 0},
		{"all arcs with too many steps each", slices.Repeat([]api.Arc{long}, api.MaxArcs), api.ErrLong, 0},
		{"an arc more", slices.Repeat([]api.Arc{calm(1, 1)}, api.MaxArcs+1), api.ErrLong, 0},
		{"a wrong arc behind one that is too long", []api.Arc{long, wrong}, api.ErrArg, 0},
		{"a wrong arc behind all", append(slices.Repeat([]api.Arc{calm(1, 1)}, api.MaxArcs), wrong), api.ErrArg, 0},
	} {
		stops, tubes, e := flight.Fly(api.Planet{}, c.l, resting())
		if e != c.e || len(tubes) != c.n || (e == api.OK) != (len(stops) == len(c.l)) {
			t.Errorf("%s: %d stops, %d tubes, error %d", c.what, len(stops), len(tubes), e)
		}
		stops, tubes, e = flight.Back(api.Planet{}, c.l, resting())
		if e != c.e || len(tubes) != c.n || (e == api.OK) != (len(stops) == len(c.l)) {
			t.Errorf("%s, back: %d stops, %d tubes, error %d", c.what, len(stops), len(tubes), e)
		}
	}
	stops, tubes, e := flight.Fly(api.Planet{}, []api.Arc{long}, api.State{})
	grounded(t, "too long, with a wrong state", stops, tubes, e, api.ErrArg)
}

// TestFlightErrors: P3.3. The first error decides, in the order of the flight.
func TestFlightErrors(t *testing.T) {
	spin := api.Planet{Spin: whole(1)}
	s := api.State{P: box(1, 0, 0), M: whole(2)}
	short, long := calm(half(4), half(4)), calm(2*api.One, 2*api.One)
	heavy, empty := short, short
	heavy.Drop = whole(2)
	empty.Flow = whole(1 << 8)
	exact, less := short, short
	exact.Drop = api.Span{Hi: 2*api.One - 1}
	less.Drop = api.Span{Hi: 2 * api.One}
	most := short
	most.Drop = point(api.MostNum)
	for _, c := range []struct {
		what        string
		l           []api.Arc
		e, onReturn api.Errno
	}{
		{"all well", []api.Arc{short, short}, api.OK, api.OK},
		{"no tube", []api.Arc{short, long}, api.ErrState, api.ErrState},
		{"no mass left by the flow", []api.Arc{short, empty}, api.ErrRange, api.OK},
		{"no mass left by the drop", []api.Arc{heavy}, api.ErrRange, api.OK},
		{"maybe no mass left by the drop", []api.Arc{less}, api.ErrRange, api.OK},
		{"the least mass left by the drop", []api.Arc{exact}, api.OK, api.OK},
		{"the drop before the next arc", []api.Arc{heavy, long}, api.ErrRange, api.ErrState},
		{"the steps before the drop", []api.Arc{long, heavy}, api.ErrState, api.ErrState},
		{"too great a drop", []api.Arc{most}, api.ErrRange, api.ErrRange},
		{"too great a drop, on the way back before the steps", []api.Arc{{Time: long.Time, Step: long.Step, Drop: most.Drop}}, api.ErrState, api.ErrRange},
	} {
		check := func(what string, fly func(p api.Planet, l []api.Arc, s api.State) ([]api.State, []api.Tube, api.Errno), wanted api.Errno) {
			stops, tubes, e := fly(spin, c.l, s)
			if wanted != api.OK {
				grounded(t, what, stops, tubes, e, wanted)
			} else if e != api.OK || len(stops) != len(c.l) || len(tubes) != len(c.l) {
				t.Errorf("%s: %d stops, %d tubes, error %d", what, len(stops), len(tubes), e)
			}
		}
		check(c.what, flight.Fly, c.e)
		check(c.what+", back", flight.Back, c.onReturn)
	}
	for _, n := range []api.Num{1, 2} {
		late, early := resting(), resting()
		late.T, early.T = api.MostNum-n, -api.MostNum+n
		stops, tubes, e := flight.Fly(api.Planet{}, []api.Arc{calm(3, 1)}, late)
		grounded(t, "behind all times", stops, tubes, e, api.ErrRange)
		stops, tubes, e = flight.Back(api.Planet{}, []api.Arc{calm(3, 1)}, early)
		grounded(t, "before all times", stops, tubes, e, api.ErrRange)
	}
}
