package flight_test

import (
	"slices"
	"testing"

	"ullage/api"
	"ullage/flight"
)

// table is a valid table.
func table() []api.Point {
	return []api.Point{{At: 0, Value: ints(2, 3)}, {At: 10 * api.One, Value: ints(1, 1)}}
}

// long is a valid table of so many points, up to the greatest number that one may have.
func long(points int) []api.Point {
	var l []api.Point
	for i := range points {
		l = append(l, api.Point{At: api.MaxPart - api.Num(points-1-i), Value: point(api.MaxPart)})
	}
	return l
}

// fullPlanet is a valid planet.
func fullPlanet() api.Planet {
	return api.Planet{Mu: ints(100, 101), Radius: ints(9, 10), Oblate: ints(-1, 1), Spin: ints(-1, 1), Pull: box(-1, 2, 3)}
}

// fullState is a valid state.
func fullState() api.State {
	return api.State{T: -api.One, P: box(20, -1, 2), V: box(1, 2, -3), M: ints(4, 5)}
}

// fullArc is a valid arc.
func fullArc() api.Arc {
	return api.Arc{Time: 5 * api.One, Step: 2 * api.One, Thrust: ints(1, 2), Flow: ints(0, 1), Dir: box(1, 0, -1), Drag: table(), Drop: ints(0, 1)}
}

// fullTube is a valid tube.
func fullTube() api.Tube {
	return api.Tube{From: -api.One, To: api.One, P: box(20, -1, 2), V: box(1, 2, -3), M: ints(4, 5)}
}

// wrongPlanets are planets that are not valid: each has one fault.
func wrongPlanets() []api.Planet {
	var l []api.Planet
	add := func(change func(p *api.Planet)) {
		p := fullPlanet()
		change(&p)
		l = append(l, p)
	}
	for _, w := range wrongSpans() {
		add(func(p *api.Planet) { p.Mu = w })
		add(func(p *api.Planet) { p.Radius = w })
		add(func(p *api.Planet) { p.Oblate = w })
		add(func(p *api.Planet) { p.Spin = w })
		for i := range 3 {
			add(func(p *api.Planet) { p.Pull[i] = w })
		}
	}
	add(func(p *api.Planet) { p.Mu.Lo = -1 })
	add(func(p *api.Planet) { p.Radius.Lo = -1 })
	return l
}

// wrongStates are states that are not valid: each has one fault.
func wrongStates() []api.State {
	var l []api.State
	add := func(change func(s *api.State)) {
		s := fullState()
		change(&s)
		l = append(l, s)
	}
	for _, w := range wrongSpans() {
		add(func(s *api.State) { s.M = w })
		for i := range 3 {
			add(func(s *api.State) { s.P[i] = w })
			add(func(s *api.State) { s.V[i] = w })
		}
	}
	add(func(s *api.State) { s.T = noNumber })
	add(func(s *api.State) { s.M.Lo = 0 })
	add(func(s *api.State) { s.M.Lo = -1 })
	return l
}

// wrongArcs are arcs that are not valid: each has one fault.
func wrongArcs() []api.Arc {
	var l []api.Arc
	add := func(change func(a *api.Arc)) {
		a := fullArc()
		change(&a)
		l = append(l, a)
	}
	for _, n := range []api.Num{0, -1, noNumber} {
		add(func(a *api.Arc) { a.Time = n })
		add(func(a *api.Arc) { a.Step = n })
	}
	for _, w := range append(wrongSpans(), api.Span{Lo: -1}) {
		add(func(a *api.Arc) { a.Thrust = w })
		add(func(a *api.Arc) { a.Flow = w })
		add(func(a *api.Arc) { a.Drop = w })
	}
	tooFar := []api.Span{{Lo: -api.One - 1}, {Hi: api.One + 1}}
	for _, w := range append(wrongSpans(), tooFar...) {
		for i := range 3 {
			add(func(a *api.Arc) { a.Dir[i] = w })
		}
	}
	add(func(a *api.Arc) { a.Drag[1].At = 0 })
	add(func(a *api.Arc) { a.Drag[1].At = api.MaxPart + 1 })
	add(func(a *api.Arc) { a.Drag[0].Value = api.Span{Lo: 1} })
	add(func(a *api.Arc) { a.Drag[0].Value.Hi = api.MaxPart + 1 })
	add(func(a *api.Arc) { a.Drag = long(api.MaxTable + 1) })
	return l
}

// wrongTubes are tubes that are not valid: each has one fault.
func wrongTubes() []api.Tube {
	var l []api.Tube
	add := func(change func(t *api.Tube)) {
		t := fullTube()
		change(&t)
		l = append(l, t)
	}
	for _, s := range wrongStates()[:7*len(wrongSpans())] {
		add(func(t *api.Tube) { t.P, t.V, t.M = s.P, s.V, s.M })
	}
	add(func(t *api.Tube) { t.From = noNumber })
	add(func(t *api.Tube) { t.From, t.To = noNumber, noNumber })
	add(func(t *api.Tube) { t.To = t.From - 1 })
	add(func(t *api.Tube) { t.M.Lo = 0 })
	return l
}

// TestCheckPlanet: P3.1.
func TestCheckPlanet(t *testing.T) {
	all := api.Span{Lo: -api.MostNum, Hi: api.MostNum}
	for _, p := range []api.Planet{{}, fullPlanet(), {Mu: api.Span{Hi: api.MostNum}, Radius: point(api.MostNum), Oblate: all, Spin: all, Pull: api.Box{all, all, all}}} {
		if e := flight.CheckPlanet(p); e != api.OK {
			t.Errorf("%v: error %d", p, e)
		}
	}
	for _, p := range wrongPlanets() {
		if e := flight.CheckPlanet(p); e != api.ErrArg {
			t.Errorf("%v: error %d", p, e)
		}
	}
}

// TestCheckState: P3.1.
func TestCheckState(t *testing.T) {
	all := api.Span{Lo: -api.MostNum, Hi: api.MostNum}
	for _, s := range []api.State{resting(), fullState(), {T: -api.MostNum, P: api.Box{all, all, all}, V: api.Box{all, all, all}, M: api.Span{Lo: 1, Hi: api.MostNum}}, {T: api.MostNum, M: point(1)}} {
		if e := flight.CheckState(s); e != api.OK {
			t.Errorf("%v: error %d", s, e)
		}
	}
	for _, s := range append(wrongStates(), api.State{}) {
		if e := flight.CheckState(s); e != api.ErrArg {
			t.Errorf("%v: error %d", s, e)
		}
	}
}

// TestCheckArc: P3.1.
func TestCheckArc(t *testing.T) {
	most := point(api.MostNum)
	for _, a := range []api.Arc{
		calm(1, 1), calm(1, api.MostNum), calm(api.MostNum, 1), fullArc(),
		{Time: 1, Step: 1, Thrust: most, Flow: most, Drop: most, Dir: api.Box{ints(-1, 1), whole(1), whole(-1)}, Drag: long(api.MaxTable)},
		{Time: 1, Step: 1, Drag: []api.Point{}},
		{Time: 1, Step: 1, Drag: []api.Point{{Value: ints(-2, -1)}}},
	} {
		if e := flight.CheckArc(a); e != api.OK {
			t.Errorf("%v: error %d", a, e)
		}
	}
	for _, a := range append(wrongArcs(), api.Arc{}) {
		if e := flight.CheckArc(a); e != api.ErrArg {
			t.Errorf("%v: error %d", a, e)
		}
	}
}

// TestSteps: P3.1.
func TestSteps(t *testing.T) {
	for _, c := range []struct {
		time, step api.Num
		n          int
		e          api.Errno
	}{
		{5 * api.One, 2 * api.One, 3, api.OK},
		{6 * api.One, 2 * api.One, 3, api.OK},
		{6*api.One + 1, 2 * api.One, 4, api.OK},
		{6*api.One - 1, 2 * api.One, 3, api.OK},
		{1, 1, 1, api.OK},
		{1, 2, 1, api.OK},
		{1, api.MostNum, 1, api.OK},
		{api.MostNum, api.MostNum, 1, api.OK},
		{api.MostNum, api.MostNum - 1, 2, api.OK},
		{api.MaxFlown, 1, api.MaxFlown, api.OK},
		{2*api.MaxFlown - 1, 2, api.MaxFlown, api.OK},
		{api.MaxFlown + 1, 1, 0, api.ErrLong},
		{2*api.MaxFlown + 1, 2, 0, api.ErrLong},
		{api.MostNum, 1, 0, api.ErrLong},
		{api.MostNum, 2, 0, api.ErrLong},
	} {
		n, e := flight.Steps(calm(c.time, c.step))
		want(t, "Steps", n, e, c.n, c.e)
	}
	for _, a := range wrongArcs() {
		n, e := flight.Steps(a)
		want(t, "Steps of a wrong arc", n, e, 0, api.ErrArg)
	}
	a := calm(api.MaxFlown+1, 1)
	a.Drop.Lo = -1
	n, e := flight.Steps(a)
	want(t, "Steps of a wrong arc that is too long", n, e, 0, api.ErrArg)
}

// TestWrongArguments: P3.2 to P3.5, ErrArg of all that is not valid.
func TestWrongArguments(t *testing.T) {
	p, a, s, tube := fullPlanet(), fullArc(), fullState(), fullTube()
	check := func(what string, p api.Planet, a api.Arc, s api.State) {
		t.Helper()
		f, e := flight.Force(p, a, s)
		want(t, "Force, "+what, f, e, api.Box{}, api.ErrArg)
		next, tube, e := flight.Step(p, a, s, 1)
		failed(t, "Step, "+what, next, tube, e, api.ErrArg)
		l := []api.Arc{fullArc(), a}
		stops, tubes, e := flight.Fly(p, l, s)
		grounded(t, "Fly, "+what, stops, tubes, e, api.ErrArg)
		stops, tubes, e = flight.Back(p, l, s)
		grounded(t, "Back, "+what, stops, tubes, e, api.ErrArg)
	}
	for _, w := range wrongPlanets() {
		check("a wrong planet", w, a, s)
		h, e := flight.Height(w, s.P)
		want(t, "Height, a wrong planet", h, e, api.Span{}, api.ErrArg)
		q, e := flight.Pressure(w, table(), tube)
		want(t, "Pressure, a wrong planet", q, e, api.Span{}, api.ErrArg)
		may, sure, e := flight.Rises(w, []api.Tube{tube}, 0)
		want(t, "Rises, a wrong planet", [2]int{may, sure}, e, [2]int{}, api.ErrArg)
		may, sure, e = flight.Rises(w, nil, 0)
		want(t, "Rises, a wrong planet, no tubes", [2]int{may, sure}, e, [2]int{}, api.ErrArg)
	}
	for _, w := range wrongArcs() {
		check("a wrong arc", p, w, s)
	}
	for _, w := range wrongStates() {
		check("a wrong state", p, a, w)
		both, e := flight.Joint(w, s)
		want(t, "Joint, the first one wrong", both, e, api.State{}, api.ErrArg)
		both, e = flight.Joint(s, w)
		want(t, "Joint, the second one wrong", both, e, api.State{}, api.ErrArg)
		sure, may := flight.Inside(w, s.P, s.V)
		want(t, "Inside, a wrong state", [2]bool{sure, may}, api.OK, [2]bool{}, api.OK)
	}
	for _, w := range wrongTubes() {
		q, e := flight.Pressure(p, table(), w)
		want(t, "Pressure, a wrong tube", q, e, api.Span{}, api.ErrArg)
		may, sure, e := flight.Rises(p, []api.Tube{tube, w}, 0)
		want(t, "Rises, a wrong tube", [2]int{may, sure}, e, [2]int{}, api.ErrArg)
	}
	for _, w := range append(wrongArcs()[len(wrongArcs())-5:], api.Arc{}) {
		q, e := flight.Pressure(p, w.Drag, tube)
		want(t, "Pressure, a wrong table", q, e, api.Span{}, api.ErrArg)
	}
	may, sure, e := flight.Rises(p, []api.Tube{tube}, noNumber)
	want(t, "Rises to no number", [2]int{may, sure}, e, [2]int{}, api.ErrArg)
}

// TestWrongBoxes: P3.4, P3.5.
func TestWrongBoxes(t *testing.T) {
	good := box(1, 2, 3)
	for _, a := range wrongSpans() {
		for i := range 3 {
			w := good
			w[i] = a
			h, e := flight.Height(api.Planet{}, w)
			want(t, "Height of a wrong place", h, e, api.Span{}, api.ErrArg)
			h, e = flight.Speed(w)
			want(t, "Speed of a wrong velocity", h, e, api.Span{}, api.ErrArg)
			h, e = flight.Climb(w, good)
			want(t, "Climb at a wrong place", h, e, api.Span{}, api.ErrArg)
			h, e = flight.Climb(good, w)
			want(t, "Climb of a wrong velocity", h, e, api.Span{}, api.ErrArg)
			sure, may := flight.Inside(api.State{P: good, V: good, M: whole(1)}, w, good)
			want(t, "Inside of a wrong place", [2]bool{sure, may}, api.OK, [2]bool{}, api.OK)
			sure, may = flight.Inside(api.State{P: good, V: good, M: whole(1)}, good, w)
			want(t, "Inside of a wrong velocity", [2]bool{sure, may}, api.OK, [2]bool{}, api.OK)
		}
	}
}

// TestOnlyRead: P3.6.
func TestOnlyRead(t *testing.T) {
	p, s := fullPlanet(), fullState()
	l := []api.Arc{fullArc(), fullArc()}
	for i := range l {
		l[i].Time, l[i].Step = api.One/100, api.One/256
	}
	stops, tubes, e := flight.Fly(p, l, s)
	backStops, backTubes, backE := flight.Back(p, l, s)
	if e != api.OK || backE != api.OK {
		t.Fatalf("error %d, back %d", e, backE)
	}
	again := func() {
		t.Helper()
		a, b, e := flight.Fly(p, l, s)
		if e != api.OK || !slices.Equal(a, stops) || !slices.Equal(b, tubes) {
			t.Error("Fly differs at the second time")
		}
		a, b, e = flight.Back(p, l, s)
		if e != api.OK || !slices.Equal(a, backStops) || !slices.Equal(b, backTubes) {
			t.Error("Back differs at the second time")
		}
		clear(a)
		clear(b)
	}
	again()
	again()
	q, e := flight.Pressure(p, l[0].Drag, tubes[0])
	if e != api.OK || q == (api.Span{}) {
		t.Errorf("the pressure is %v, error %d", q, e)
	}
	before := slices.Clone(tubes)
	if _, _, e := flight.Rises(p, tubes, 0); e != api.OK {
		t.Errorf("Rises: error %d", e)
	}
	if !slices.Equal(tubes, before) {
		t.Error("Rises changes its tubes")
	}
	for _, a := range l {
		if !slices.Equal(a.Drag, table()) {
			t.Error("a table is changed")
		}
	}
}
