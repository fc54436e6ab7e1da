package flight_test

import (
	"math"
	"math/big"
	"testing"

	"ullage/api"
	"ullage/flight"
	"ullage/span"
)

// parts returns the span of all numbers from a / b to c / b.
func parts(a, c, b int) api.Span {
	low, _ := span.Ratio(a, b)
	high, _ := span.Ratio(c, b)
	return api.Span{Lo: low.Lo, Hi: high.Hi}
}

// earth is a model of the earth.
func earth() api.Planet {
	return api.Planet{
		Mu:     parts(3986004, 3986005, 10),
		Radius: parts(6378137, 6378137, 1000),
		Oblate: parts(16239, 16240, 10_000_000),
		Spin:   parts(72921, 72922, 1_000_000_000),
	}
}

// onGround is a state on the earth.
func onGround() api.State {
	return api.State{T: -3 * api.One, P: api.Box{parts(5600, 5600, 1), parts(3, 4, 1000), parts(3057, 3057, 1)}, V: api.Box{whole(0), parts(1, 2, 1000), whole(0)}, M: ints(300, 301)}
}

// climb is three arcs of a climb from there.
func climb() []api.Arc {
	air := []api.Point{{At: 0, Value: parts(60, 61, 10)}, {At: 5 * api.One, Value: parts(36, 37, 10)}, {At: 20 * api.One, Value: parts(4, 5, 10)}, {At: 100 * api.One}}
	return []api.Arc{
		{Time: 10 * api.One, Step: api.One / 2, Thrust: parts(45, 46, 10), Flow: parts(16, 17, 10), Dir: api.Box{parts(878, 879, 1000), whole(0), parts(479, 480, 1000)}, Drag: air, Drop: parts(200, 201, 1)},
		{Time: 3*api.One + 5, Step: api.One, Drag: air},
		{Time: 5 * api.One, Step: 2 * api.One, Thrust: parts(1, 2, 1), Flow: parts(4, 5, 10), Dir: api.Box{parts(7, 8, 10), parts(5, 6, 10), ints(0, 0)}, Drop: whole(1)},
	}
}

// toy is a small planet that turns fast and is far from round.
func toy() api.Planet {
	return api.Planet{Mu: parts(100, 101, 10), Radius: whole(5), Oblate: parts(10, 11, 100), Spin: parts(-51, -50, 1000), Pull: api.Box{parts(0, 1, 1000), whole(0), parts(-1, 1, 1000)}}
}

// aroundToy is a state, and arcs, of a flight around the toy.
func aroundToy() (api.State, []api.Arc) {
	s := api.State{P: api.Box{whole(7), parts(0, 1, 100), whole(2)}, V: api.Box{parts(2, 2, 10), whole(1), parts(3, 3, 10)}, M: ints(10, 10)}
	return s, []api.Arc{
		{Time: api.One, Step: api.One / 16, Thrust: parts(10, 11, 10), Flow: parts(5, 6, 10), Dir: api.Box{parts(-8, -8, 10), whole(0), parts(6, 6, 10)}, Drag: []api.Point{{At: 0, Value: parts(9, 10, 10)}, {At: 5 * api.One, Value: parts(0, 1, 10)}}, Drop: whole(2)},
		{Time: api.One, Step: api.One / 10, Flow: parts(1, 2, 10)},
	}
}

// world is a planet, and a flight there.
type world struct {
	p    api.Planet
	l    []api.Arc
	from api.State
}

// worlds are those of the tests.
func worlds() []world {
	around, arcs := aroundToy()
	return []world{{earth(), climb(), onGround()}, {toy(), arcs, around}}
}

// body is where something is, how fast, and how heavy.
type body [7]float64

// pick returns a number of a span, often one of its ends.
func (s *sample) pick(a api.Span) float64 { return float(s.in(a)) }

// forces are those of the model at an instant.
type forces struct {
	mu, radius, oblate, spin, thrust, flow, air float64
	pull, dir                                   [3]float64
	drag                                        []api.Point
}

// forces chooses some within the spans of a planet and of an arc.
func (s *sample) forces(p api.Planet, a api.Arc) forces {
	f := forces{
		mu: s.pick(p.Mu), radius: s.pick(p.Radius), oblate: s.pick(p.Oblate), spin: s.pick(p.Spin),
		thrust: s.pick(a.Thrust), flow: s.pick(a.Flow), air: s.pick(ints(0, 1)), drag: a.Drag,
	}
	for i := range 3 {
		f.pull[i], f.dir[i] = s.pick(p.Pull[i]), s.pick(a.Dir[i])
	}
	return f
}

// braking looks up the drag table at a height.
func (f forces) braking(height float64) float64 {
	at := func(p api.Point) float64 { return float(p.Value.Lo) + f.air*float(p.Value.Hi-p.Value.Lo) }
	last := len(f.drag) - 1
	if last < 0 {
		return 0
	}
	if height <= float(f.drag[0].At) {
		return at(f.drag[0])
	}
	for i, p := range f.drag[1:] {
		from, to := float(f.drag[i].At), float(p.At)
		if height <= to {
			return at(f.drag[i]) + (at(p)-at(f.drag[i]))*(height-from)/(to-from)
		}
	}
	return at(f.drag[last])
}

// change is the right side of the model's equations.
func (f forces) change(b body) body {
	r := math.Sqrt(b[0]*b[0] + b[1]*b[1] + b[2]*b[2])
	v := math.Sqrt(b[3]*b[3] + b[4]*b[4] + b[5]*b[5])
	up := b[2] / r
	c := f.oblate * (f.radius / r) * (f.radius / r)
	n := [3]float64{1 + c*(1-5*up*up), 1 + c*(1-5*up*up), 1 + c*(3-5*up*up)}
	turning := [3]float64{2*f.spin*b[4] + f.spin*f.spin*b[0], -2*f.spin*b[3] + f.spin*f.spin*b[1], 0}
	braking := f.braking(r-f.radius) / b[6] * v
	out := body{b[3], b[4], b[5], 0, 0, 0, -f.flow}
	for i := range 3 {
		out[3+i] = f.pull[i] - f.mu/r/r*b[i]/r*n[i] + turning[i] + f.thrust/b[6]*f.dir[i] - braking*b[3+i]
	}
	return out
}

// move moves a body by a method of Runge and Kutta.
func (f forces) move(b body, h float64) body {
	along := func(k body, h float64) body {
		out := b
		for i := range out {
			out[i] += h * k[i]
		}
		return out
	}
	k1 := f.change(b)
	k2 := f.change(along(k1, h/2))
	k3 := f.change(along(k2, h/2))
	k4 := f.change(along(k3, h))
	var mean body
	for i := range mean {
		mean[i] = (k1[i] + 2*k2[i] + 2*k3[i] + k4[i]) / 6
	}
	return along(mean, h)
}

// start chooses a body in a state.
func (s *sample) start(st api.State) body {
	var b body
	for i := range 3 {
		b[i], b[3+i] = s.pick(st.P[i]), s.pick(st.V[i])
	}
	b[6] = s.pick(st.M)
	return b
}

// holds checks that a body is within spans, but for the errors of its own reckoning.
func holds(t *testing.T, what string, p, v api.Box, m api.Span, b body) bool {
	t.Helper()
	const slack = 1e-8
	for i, a := range []api.Span{p[0], p[1], p[2], v[0], v[1], v[2], m} {
		if b[i] < float(a.Lo)-slack || b[i] > float(a.Hi)+slack {
			t.Errorf("%s: %v is not in %v to %v (%d)", what, b[i], float(a.Lo), float(a.Hi), i)
			return false
		}
	}
	return true
}

// drift moves a body through a tube, and checks that it stays there.
func (s *sample) drift(t *testing.T, p api.Planet, a api.Arc, tube api.Tube, h float64, b body) body {
	t.Helper()
	const pieces = 8
	holds(t, "the beginning of a tube", tube.P, tube.V, tube.M, b)
	f := s.forces(p, a)
	for range pieces {
		if s.below(3) == 0 {
			f = s.forces(p, a)
		}
		b = f.move(b, h/pieces)
		holds(t, "a tube", tube.P, tube.V, tube.M, b)
	}
	return b
}

// TestTrajectories: P0.2, P3.7. Trajectories are in all tubes and stops, forwards and backwards.
func TestTrajectories(t *testing.T) {
	s := sample{2}
	for _, w := range worlds() {
		stops, tubes, e := flight.Fly(w.p, w.l, w.from)
		if e != api.OK {
			t.Fatalf("error %d", e)
		}
		last := stops[len(stops)-1]
		backStops, backTubes, e := flight.Back(w.p, w.l, last)
		if e != api.OK {
			t.Fatalf("back: error %d", e)
		}
		for range 60 {
			b, i := s.start(w.from), 0
			for k, a := range w.l {
				n, _ := flight.Steps(a)
				for range n {
					b = s.drift(t, w.p, a, tubes[i], float(tubes[i].To-tubes[i].From), b)
					i++
				}
				b[6] -= s.pick(a.Drop)
				holds(t, "a stop", stops[k].P, stops[k].V, stops[k].M, b)
			}
			b, i = s.start(last), 0
			for k := range w.l {
				a := w.l[len(w.l)-1-k]
				b[6] += s.pick(a.Drop)
				n, _ := flight.Steps(a)
				for range n {
					b = s.drift(t, w.p, a, backTubes[i], -float(backTubes[i].To-backTubes[i].From), b)
					i++
				}
				holds(t, "a stop of the way back", backStops[k].P, backStops[k].V, backStops[k].M, b)
			}
			if t.Failed() {
				return
			}
		}
		if !contains(backStops[len(backStops)-1], w.from) {
			t.Error("forward and back does not lead to what was there")
		}
	}
}

// TestForwardAndBack: P3.7, of single steps of any kind.
func TestForwardAndBack(t *testing.T) {
	s := sample{3}
	n := 0
	for range 20000 {
		p, a, st, h := s.anything()
		next, tube, e := flight.Step(p, a, st, h)
		if e != api.OK {
			continue
		}
		if flight.CheckState(next) != api.OK {
			t.Errorf("the new state %v is not valid", next)
		}
		for _, end := range []api.State{st, next} {
			if sure, _ := flight.Inside(end, tube.P, tube.V); end == st && !sure {
				t.Errorf("the tube %v does not contain the state %v", tube, st)
			}
			if !span.Within(end.M, tube.M) {
				t.Errorf("the tube's mass %v does not contain %v", tube.M, end.M)
			}
		}
		there, _, e := flight.Step(p, a, next, -h)
		if e != api.OK {
			continue
		}
		n++
		if !contains(there, st) {
			t.Errorf("%v, forward and back by %d, is %v", st, h, there)
		}
	}
	if n < 1000 {
		t.Errorf("only %d steps lead back", n)
	}
}

// TestTwoDivisions: P3.7. Two ways to divide the same time come to states that have something in common.
func TestTwoDivisions(t *testing.T) {
	for _, w := range worlds() {
		finer := make([]api.Arc, len(w.l))
		for i, a := range w.l {
			a.Step = a.Step * 2 / 3
			finer[i] = a
		}
		for _, fly := range []func(p api.Planet, l []api.Arc, s api.State) ([]api.State, []api.Tube, api.Errno){flight.Fly, flight.Back} {
			a, aTubes, e := fly(w.p, w.l, w.from)
			b, bTubes, finerE := fly(w.p, finer, w.from)
			if e != api.OK || finerE != api.OK || len(bTubes) <= len(aTubes) {
				t.Fatalf("errors %d, %d, tubes %d, %d", e, finerE, len(aTubes), len(bTubes))
			}
			for i := range a {
				if _, e := flight.Joint(a[i], b[i]); e != api.OK {
					t.Errorf("%v and %v have nothing in common", a[i], b[i])
				}
			}
		}
	}
}

// corners returns both ends of a span.
func corners(a api.Span) [2]*big.Rat { return [2]*big.Rat{rat(a.Lo), rat(a.Hi)} }

// TestFalling: P3.7. Under a pull alone the places are p + v t + g t² / 2, and the velocities v + g t.
func TestFalling(t *testing.T) {
	s := sample{4}
	for range 300 {
		p := api.Planet{Radius: whole(3), Oblate: whole(2), Pull: api.Box{point(s.num(half(7))), point(s.num(half(7))), point(s.num(half(7)))}}
		st := api.State{T: s.num(100 * api.One), M: ints(30, 31)}
		for i := range 3 {
			st.P[i], st.V[i] = s.part(ints(-9, 9)), s.part(ints(-3, 3))
		}
		a := calm(1+s.in(ints(0, 9)), 1+s.in(ints(1, 4)))
		a.Flow = ints(1, 2)
		stops, _, e := flight.Fly(p, []api.Arc{a}, st)
		if e != api.OK {
			t.Fatalf("error %d", e)
		}
		got, time := stops[0], rat(a.Time)
		if got.T != st.T+a.Time {
			t.Errorf("the stop is at %d, not at %d + %d", got.T, st.T, a.Time)
		}
		square := new(big.Rat).Mul(time, time)
		for i := range 3 {
			g := rat(p.Pull[i].Lo)
			half := new(big.Rat).Mul(new(big.Rat).Mul(g, square), big.NewRat(1, 2))
			for _, v := range corners(st.V[i]) {
				if end := new(big.Rat).Add(v, new(big.Rat).Mul(g, time)); !inside(got.V[i], end) {
					t.Errorf("the velocity %v is not in %v", end, got.V[i])
				}
				for _, place := range corners(st.P[i]) {
					end := new(big.Rat).Add(place, new(big.Rat).Mul(v, time))
					if end.Add(end, half); !inside(got.P[i], end) {
						t.Errorf("the place %v is not in %v", end, got.P[i])
					}
				}
			}
		}
		for _, flow := range corners(a.Flow) {
			for _, m := range corners(st.M) {
				if end := new(big.Rat).Sub(m, new(big.Rat).Mul(flow, time)); !inside(got.M, end) {
					t.Errorf("the mass %v is not in %v", end, got.M)
				}
			}
		}
	}
}

// TestPartsGiveParts: P3.7. What is true of a part is in what is true of the whole.
func TestPartsGiveParts(t *testing.T) {
	s := sample{5}
	n := 0
	for range 5000 {
		p, a, st, _ := s.anything()
		all, e := flight.Force(p, a, st)
		if e != api.OK {
			continue
		}
		part := st
		for i := range 3 {
			part.P[i], part.V[i] = s.part(st.P[i]), s.part(st.V[i])
		}
		part.M = s.part(st.M)
		a.Thrust = s.part(a.Thrust)
		f, e := flight.Force(p, a, part)
		for i := range 3 {
			if e != api.OK || !span.Within(f[i], all[i]) {
				t.Errorf("a part has the force %v, error %d, the whole %v", f, e, all)
			}
		}
		n++
	}
	if n < 1000 {
		t.Errorf("only %d forces", n)
	}
}

// TestWildArguments: P0.1. No argument makes a function panic, or go on for ever, and with an error there are no results.
func TestWildArguments(t *testing.T) {
	s := sample{6}
	edges := []api.Num{noNumber, -api.MostNum, -api.One, -1, 0, 1, api.One, huge, api.MostNum}
	num := func() api.Num { return edges[s.below(len(edges))] }
	span := func() api.Span {
		a, b := num(), num()
		if s.below(9) > 0 {
			a, b = min(a, b), max(a, b)
		}
		return api.Span{Lo: max(a, -api.MostNum+api.Num(s.below(20))-1), Hi: b}
	}
	box := func() api.Box { return api.Box{span(), span(), span()} }
	for range 20000 {
		p := api.Planet{Oblate: span(), Spin: span(), Pull: box()}
		p.Mu.Hi, p.Radius.Hi = max(0, num()), max(0, num())
		a := api.Arc{Time: num(), Step: num(), Dir: box()}
		a.Thrust.Hi, a.Flow.Hi, a.Drop.Hi = max(0, num()), max(0, num()), max(0, num())
		if s.below(2) == 0 {
			a.Dir = api.Box{ints(-1, 1), whole(1)}
		}
		st := api.State{T: num(), P: box(), V: box(), M: api.Span{Lo: 1, Hi: num()}}
		if f, e := flight.Force(p, a, st); e != api.OK && f != (api.Box{}) {
			t.Errorf("Force: %v with error %d", f, e)
		}
		if next, tube, e := flight.Step(p, a, st, num()); e != api.OK && (next != (api.State{}) || tube != (api.Tube{})) {
			t.Errorf("Step: %v, %v with error %d", next, tube, e)
		}
		for _, fly := range []func(p api.Planet, l []api.Arc, s api.State) ([]api.State, []api.Tube, api.Errno){flight.Fly, flight.Back} {
			if stops, tubes, e := fly(p, []api.Arc{a}, st); e != api.OK && (len(stops) != 0 || len(tubes) != 0) {
				t.Errorf("a flight: %v, %v with error %d", stops, tubes, e)
			}
		}
		if h, e := flight.Height(p, st.P); e != api.OK && h != (api.Span{}) {
			t.Errorf("Height: %v with error %d", h, e)
		}
		if c, e := flight.Climb(st.P, st.V); e != api.OK && c != (api.Span{}) {
			t.Errorf("Climb: %v with error %d", c, e)
		}
		tube := api.Tube{From: num(), To: num(), P: st.P, V: st.V, M: st.M}
		if q, e := flight.Pressure(p, table(), tube); e != api.OK && q != (api.Span{}) {
			t.Errorf("Pressure: %v with error %d", q, e)
		}
		if may, sure, e := flight.Rises(p, []api.Tube{tube}, num()); e != api.OK && (may != 0 || sure != 0) {
			t.Errorf("Rises: %d, %d with error %d", may, sure, e)
		}
		if both, e := flight.Joint(st, st); e == api.OK && both != st {
			t.Errorf("Joint of the same: %v", both)
		}
		if sure, may := flight.Inside(st, box(), box()); sure && !may {
			t.Error("Inside surely, but not maybe")
		}
	}
}
