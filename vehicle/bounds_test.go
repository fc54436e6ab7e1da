package vehicle_test

import (
	"math/big"
	"slices"
	"testing"

	"ullage/api"
	"ullage/span"
	"ullage/vehicle"
)

// call is a function of a vehicle that returns a span, with arguments that are well for small.
type call struct {
	name string
	of   func(v api.Vehicle) (api.Span, api.Errno)
}

func calls() []call {
	return []call{
		{"Total", vehicle.Total},
		{"Mass", func(v api.Vehicle) (api.Span, api.Errno) { return vehicle.Mass(v, 0, ints(1, 2)) }},
		{"Thrust", func(v api.Vehicle) (api.Span, api.Errno) { return vehicle.Thrust(v, 0, ints(1, 1)) }},
		{"Flow", func(v api.Vehicle) (api.Span, api.Errno) { return vehicle.Flow(v, 0, ints(1, 1)) }},
		{"Burn", func(v api.Vehicle) (api.Span, api.Errno) { return vehicle.Burn(v, 0) }},
		{"Drag", func(v api.Vehicle) (api.Span, api.Errno) { return vehicle.Drag(v, ints(1, 2)) }},
		{"Mass, no such stage", func(v api.Vehicle) (api.Span, api.Errno) { return vehicle.Mass(v, 9, ints(1, 2)) }},
		{"Thrust, no such stage", func(v api.Vehicle) (api.Span, api.Errno) { return vehicle.Thrust(v, -1, ints(1, 1)) }},
		{"Flow, no such stage", func(v api.Vehicle) (api.Span, api.Errno) { return vehicle.Flow(v, 9, ints(5, 1)) }},
		{"Burn, no such stage", func(v api.Vehicle) (api.Span, api.Errno) { return vehicle.Burn(v, -1) }},
	}
}

// TestWrongVehicles: P2.9 to P2.12, ErrArg comes first.
func TestWrongVehicles(t *testing.T) {
	for _, v := range wrongVehicles() {
		for _, f := range calls() {
			a, e := f.of(v)
			wantSpan(t, f.name, a, e, api.Span{}, api.ErrArg)
		}
		for _, n := range []int{-1, 0, 1, 9} {
			if w, e := vehicle.Without(v, n); e != api.ErrArg || !same(w, api.Vehicle{}) {
				t.Errorf("Without(%d) of a vehicle that is not valid: %v, error %d", n, w, e)
			}
		}
	}
}

// TestNoSuchStage: P2.10 to P2.12, ErrNone comes before what is wrong with other arguments.
func TestNoSuchStage(t *testing.T) {
	v := small()
	for _, n := range []int{-1, 2, 3, 8, 1 << 62, -1 << 62} {
		for _, a := range []api.Span{{}, ints(1, 1), {Lo: 1, Hi: 0}, {Lo: -1, Hi: 0}} {
			b, e := vehicle.Mass(v, n, a)
			wantSpan(t, "Mass", b, e, api.Span{}, api.ErrNone)
			b, e = vehicle.Thrust(v, n, a)
			wantSpan(t, "Thrust", b, e, api.Span{}, api.ErrNone)
			b, e = vehicle.Flow(v, n, a)
			wantSpan(t, "Flow", b, e, api.Span{}, api.ErrNone)
		}
		b, e := vehicle.Burn(v, n)
		wantSpan(t, "Burn", b, e, api.Span{}, api.ErrNone)
		if w, e := vehicle.Without(v, n); e != api.ErrNone || !same(w, api.Vehicle{}) {
			t.Errorf("Without(%d): %v, error %d", n, w, e)
		}
	}
}

// TestDrag: P2.9.
func TestDrag(t *testing.T) {
	s := sample{41}
	for range 200 {
		v := s.vehicle()
		last := v.Drag[len(v.Drag)-1].At
		for _, x := range []api.Span{{}, {Lo: -api.MostNum, Hi: api.MostNum}, point(last), s.bounds(0, api.MaxPlace), {Lo: 1, Hi: 0}, {Lo: noNumber, Hi: 0}} {
			want, wantE := span.Look(v.Drag, x)
			a, e := vehicle.Drag(v, x)
			wantSpan(t, "Drag", a, e, want, wantE)
		}
	}
	a, e := vehicle.Drag(small(), ints(5, 20))
	wantSpan(t, "Drag of the example of layer 1", a, e, ints(2, 6), api.OK)
	a, e = vehicle.Drag(small(), api.Span{Lo: 2, Hi: 1})
	wantSpan(t, "Drag at no span", a, e, api.Span{}, api.ErrArg)
}

// TestTotal: P2.10.
func TestTotal(t *testing.T) {
	a, e := vehicle.Total(small())
	wantSpan(t, "Total of small", a, e, ints(20, 25), api.OK)
	full := small()
	full.Stages = stages(api.MaxStages)
	for i := range full.Stages {
		full.Stages[i].Dry, full.Stages[i].Prop = point(api.MaxPlace), point(api.MaxPlace)
	}
	full.Payload = point(api.MaxPlace)
	a, e = vehicle.Total(full)
	wantSpan(t, "the greatest Total", a, e, point(17*api.MaxPlace), api.OK)
	s := sample{42}
	for range 200 {
		v := s.vehicle()
		want := v.Payload
		for _, x := range v.Stages {
			want = api.Span{Lo: want.Lo + x.Dry.Lo + x.Prop.Lo, Hi: want.Hi + x.Dry.Hi + x.Prop.Hi}
		}
		a, e := vehicle.Total(v)
		wantSpan(t, "Total", a, e, want, api.OK)
	}
}

// TestMass: P2.10.
func TestMass(t *testing.T) {
	for _, x := range []struct {
		gone int
		used api.Span
		want api.Span
		e    api.Errno
	}{
		{0, api.Span{}, ints(20, 25), api.OK},
		{0, ints(1, 2), ints(18, 24), api.OK},
		{0, ints(11, 11), ints(10, 14), api.OK},
		{0, ints(10, 12), ints(10, 15), api.OK},
		{0, ints(0, 100), ints(10, 25), api.OK},
		{0, ints(50, 100), ints(10, 13), api.OK},
		{0, point(api.MostNum), ints(10, 13), api.OK},
		{0, api.Span{Lo: 0, Hi: api.MostNum}, ints(10, 25), api.OK},
		{1, api.Span{}, ints(7, 9), api.OK},
		{1, ints(2, 3), ints(4, 7), api.OK},
		{1, ints(6, 6), ints(2, 3), api.OK},
		{0, api.Span{Lo: -1, Hi: 0}, api.Span{}, api.ErrArg},
		{0, api.Span{Lo: 1, Hi: 0}, api.Span{}, api.ErrArg},
		{1, api.Span{Lo: -2, Hi: -1}, api.Span{}, api.ErrArg},
		{1, api.Span{Lo: noNumber, Hi: 0}, api.Span{}, api.ErrArg},
		{1, api.Span{Lo: 0, Hi: noNumber}, api.Span{}, api.ErrArg},
	} {
		a, e := vehicle.Mass(small(), x.gone, x.used)
		wantSpan(t, "Mass", a, e, x.want, x.e)
	}
	v := small()
	v.Stages = v.Stages[:1]
	v.Stages[0].Dry, v.Stages[0].Prop, v.Payload = ints(3, 3), ints(10, 12), ints(1, 1)
	a, e := vehicle.Mass(v, 0, ints(11, 11))
	wantSpan(t, "Mass of the example", a, e, ints(4, 5), api.OK)
}

// TestMassContains: P2.10 and P2.16, of sampled masses; and a Mass from the beginning is a Total.
func TestMassContains(t *testing.T) {
	s := sample{43}
	for range 200 {
		v := s.vehicle()
		for gone := range v.Stages {
			w, e := vehicle.Without(v, gone)
			total, d := vehicle.Total(w)
			a, f := vehicle.Mass(v, gone, api.Span{})
			if e != api.OK || d != api.OK || f != api.OK || a != total {
				t.Errorf("Mass behind %d stages is %v, Total without them %v", gone, a, total)
			}
			used := s.bounds(0, v.Stages[gone].Prop.Hi)
			a, _ = vehicle.Mass(v, gone, used)
			left := s.in(v.Stages[gone].Prop) - s.in(used)
			m := s.in(v.Payload) + max(left, 0) + s.in(v.Stages[gone].Dry)
			for _, x := range v.Stages[gone+1:] {
				m += s.in(x.Dry) + s.in(x.Prop)
			}
			if !span.In(a, m) {
				t.Errorf("Mass is %v, without %d", a, m)
			}
		}
	}
}

// together returns the sum of Count times a bound, of engines.
func together(l []api.Engine, of func(x api.Engine) api.Num) *big.Rat {
	sum := new(big.Rat)
	for _, x := range l {
		sum.Add(sum, new(big.Rat).Mul(big.NewRat(int64(x.Count), 1), rat(of(x))))
	}
	return sum
}

func thrustLow(x api.Engine) api.Num  { return x.Thrust.Lo }
func thrustHigh(x api.Engine) api.Num { return x.Thrust.Hi }
func flowLow(x api.Engine) api.Num    { return x.Flow.Lo }
func flowHigh(x api.Engine) api.Num   { return x.Flow.Hi }

// TestThrustFlow: P2.11, with exact numbers.
func TestThrustFlow(t *testing.T) {
	s := sample{44}
	for range 300 {
		v := s.vehicle()
		for i, x := range v.Stages {
			var least api.Num
			for _, y := range x.Engines {
				least = max(least, y.Least)
			}
			for _, level := range []api.Span{{}, ints(1, 1), point(least), {Lo: least, Hi: api.One}, s.bounds(least, api.One)} {
				low, high := rat(level.Lo), rat(level.Hi)
				want, wantE := roundOut(new(big.Rat).Mul(low, together(x.Engines, thrustLow)), new(big.Rat).Mul(high, together(x.Engines, thrustHigh)))
				a, e := vehicle.Thrust(v, i, level)
				wantSpan(t, "Thrust", a, e, want, wantE)
				want, wantE = roundOut(new(big.Rat).Mul(low, together(x.Engines, flowLow)), new(big.Rat).Mul(high, together(x.Engines, flowHigh)))
				a, e = vehicle.Flow(v, i, level)
				wantSpan(t, "Flow", a, e, want, wantE)
			}
		}
	}
}

// TestThrustOfSmall: P2.11, by hand, and rounded once only.
func TestThrustOfSmall(t *testing.T) {
	v := small()
	a, e := vehicle.Thrust(v, 0, api.Span{Lo: api.One / 2, Hi: api.One})
	wantSpan(t, "Thrust of small", a, e, ints(6, 18), api.OK)
	a, e = vehicle.Flow(v, 0, api.Span{Lo: api.One / 2, Hi: api.One})
	wantSpan(t, "Flow of small", a, e, ints(3, 12), api.OK)
	a, e = vehicle.Flow(v, 1, api.Span{Lo: 0, Hi: api.One / 2})
	wantSpan(t, "Flow of the second stage", a, e, ints(0, 1), api.OK)
	for i := range v.Stages[0].Engines {
		v.Stages[0].Engines[i].Thrust, v.Stages[0].Engines[i].Flow, v.Stages[0].Engines[i].Count = point(1), point(3), 1
	}
	a, e = vehicle.Thrust(v, 0, point(api.One/2))
	wantSpan(t, "two halves", a, e, point(1), api.OK)
	a, e = vehicle.Flow(v, 0, point(api.One/2))
	wantSpan(t, "six halves", a, e, point(3), api.OK)
	a, e = vehicle.Flow(v, 0, point(api.One/2+1))
	wantSpan(t, "six halves and little more", a, e, api.Span{Lo: 3, Hi: 4}, api.OK)
	v.Stages[0].Engines = engines(api.MaxEngines)
	for i := range v.Stages[0].Engines {
		x := &v.Stages[0].Engines[i]
		x.Count, x.Thrust, x.Flow = api.MaxCount, point(api.MaxPlace), point(api.MaxPlace)
	}
	a, e = vehicle.Thrust(v, 0, ints(1, 1))
	wantSpan(t, "the greatest thrust", a, e, point(1<<62), api.OK)
	a, e = vehicle.Flow(v, 0, ints(1, 1))
	wantSpan(t, "the greatest flow", a, e, point(1<<62), api.OK)
	v.Stages[0].Engines = nil
	a, e = vehicle.Thrust(v, 0, api.Span{Lo: 1, Hi: api.One})
	wantSpan(t, "the thrust of no engines", a, e, api.Span{}, api.OK)
	a, e = vehicle.Flow(v, 0, api.Span{Lo: 1, Hi: api.One})
	wantSpan(t, "the flow of no engines", a, e, api.Span{}, api.OK)
}

// TestLevels: P2.11, which levels are possible.
func TestLevels(t *testing.T) {
	v := small()
	v.Stages[0].Engines[0].Least, v.Stages[0].Engines[1].Least = api.One/4, api.One/2
	for _, x := range []struct {
		stage int
		level api.Span
		e     api.Errno
	}{
		{0, api.Span{Lo: api.One / 2, Hi: api.One}, api.OK},
		{0, point(api.One / 2), api.OK},
		{0, api.Span{}, api.OK},
		{0, api.Span{Lo: api.One/2 - 1, Hi: api.One}, api.ErrRange},
		{0, api.Span{Lo: api.One / 4, Hi: api.One / 4}, api.ErrRange},
		{0, api.Span{Lo: 0, Hi: 1}, api.ErrRange},
		{0, api.Span{Lo: 0, Hi: api.One}, api.ErrRange},
		{0, api.Span{Lo: api.One, Hi: api.One + 1}, api.ErrRange},
		{0, api.Span{Lo: api.One, Hi: api.One / 2}, api.ErrRange},
		{0, api.Span{Lo: -1, Hi: 0}, api.ErrRange},
		{0, api.Span{Lo: noNumber, Hi: 0}, api.ErrRange},
		{0, api.Span{Lo: 1, Hi: 0}, api.ErrRange},
		{0, api.Span{Lo: 0, Hi: noNumber}, api.ErrRange},
		{1, api.Span{Lo: 0, Hi: api.One}, api.OK},
		{1, api.Span{Lo: 0, Hi: api.One + 1}, api.ErrRange},
		{1, api.Span{Lo: -1, Hi: api.One}, api.ErrRange},
	} {
		a, e := vehicle.Thrust(v, x.stage, x.level)
		if e != x.e || e != api.OK && a != (api.Span{}) {
			t.Errorf("Thrust at %v: %v, error %d; want %d", x.level, a, e, x.e)
		}
		a, e = vehicle.Flow(v, x.stage, x.level)
		if e != x.e || e != api.OK && a != (api.Span{}) {
			t.Errorf("Flow at %v: %v, error %d; want %d", x.level, a, e, x.e)
		}
	}
	v.Stages[0].Engines[0].Least = 3 * api.One / 4
	if _, e := vehicle.Thrust(v, 0, point(api.One/2)); e != api.ErrRange {
		t.Errorf("a level below the first Least: error %d", e)
	}
}

// TestBurn: P2.11.
func TestBurn(t *testing.T) {
	v := small()
	a, e := vehicle.Burn(v, 1)
	wantSpan(t, "Burn of the second stage", a, e, api.Span{Lo: 5 * api.One / 2, Hi: 6 * api.One}, api.OK)
	a, e = vehicle.Burn(v, 0)
	wantSpan(t, "Burn of the first stage", a, e, api.Span{Lo: 3579139413, Hi: 2 * api.One}, api.OK)
	v.Stages[1].Engines = nil
	a, e = vehicle.Burn(v, 1)
	wantSpan(t, "Burn without engines", a, e, api.Span{}, api.ErrState)
	v.Stages[0].Engines = v.Stages[0].Engines[:1]
	v.Stages[0].Engines[0].Flow = api.Span{Lo: 1, Hi: 2}
	a, e = vehicle.Burn(v, 0)
	wantSpan(t, "Burn for too long", a, e, api.Span{}, api.ErrRange)
	s := sample{45}
	for range 500 {
		v := s.vehicle()
		for i, x := range v.Stages {
			a, e := vehicle.Burn(v, i)
			if len(x.Engines) == 0 {
				wantSpan(t, "Burn without engines", a, e, api.Span{}, api.ErrState)
				continue
			}
			want, wantE := roundOut(new(big.Rat).Quo(rat(x.Prop.Lo), together(x.Engines, flowHigh)), new(big.Rat).Quo(rat(x.Prop.Hi), together(x.Engines, flowLow)))
			wantSpan(t, "Burn", a, e, want, wantE)
		}
	}
}

// TestContains: P2.16 and P0.2, of sampled engines and levels.
func TestContains(t *testing.T) {
	s := sample{46}
	for range 300 {
		v := s.vehicle()
		x := v.Stages[0]
		if len(x.Engines) == 0 {
			continue
		}
		var least api.Num
		for _, y := range x.Engines {
			least = max(least, y.Least)
		}
		level := s.bounds(least, api.One)
		at := rat(s.in(level))
		thrust := together(x.Engines, func(y api.Engine) api.Num { return s.in(y.Thrust) })
		flow := together(x.Engines, func(y api.Engine) api.Num { return s.in(y.Flow) })
		burn := new(big.Rat).Quo(rat(s.in(x.Prop)), flow)
		a, e := vehicle.Thrust(v, 0, level)
		inside(t, "Thrust", a, e, thrust.Mul(thrust, at))
		a, e = vehicle.Burn(v, 0)
		inside(t, "Burn", a, e, burn)
		a, e = vehicle.Flow(v, 0, level)
		inside(t, "Flow", a, e, flow.Mul(flow, at))
	}
}

// inside checks that a span, if there is no error, has an exact number.
func inside(t *testing.T, what string, a api.Span, e api.Errno, x *big.Rat) {
	t.Helper()
	if e == api.OK && (rat(a.Lo).Cmp(x) > 0 || rat(a.Hi).Cmp(x) < 0) {
		t.Errorf("%s is %v, without %v", what, a, x)
	}
}

// TestWithout: P2.12.
func TestWithout(t *testing.T) {
	s := sample{47}
	for range 100 {
		v := s.vehicle()
		for n := range v.Stages {
			want := twin(v)
			want.Stages = want.Stages[n:]
			w, e := vehicle.Without(v, n)
			if e != api.OK || !same(w, want) {
				t.Errorf("Without(%d): %v, error %d", n, w, e)
			}
			wantCheck(t, "a vehicle without stages", w, 0, 0, api.OK)
		}
		if _, e := vehicle.Without(v, len(v.Stages)); e != api.ErrNone {
			t.Errorf("Without all stages: error %d", e)
		}
	}
}

// TestMemory: R4: no argument is changed, and a result shares no memory with it.
func TestMemory(t *testing.T) {
	v := small()
	for n := range v.Stages {
		w, _ := vehicle.Without(v, n)
		for i := range w.Stages {
			for j := range w.Stages[i].Engines {
				w.Stages[i].Engines[j] = api.Engine{}
			}
			w.Stages[i] = api.Stage{}
		}
		for i := range w.Drag {
			w.Drag[i] = api.Point{}
		}
		_ = append(w.Stages, api.Stage{})
		_ = append(w.Drag, api.Point{})
	}
	for _, f := range calls() {
		if _, e := f.of(v); e != api.OK && e != api.ErrNone {
			t.Errorf("%s: error %d", f.name, e)
		}
	}
	vehicle.Print(v)
	vehicle.Check(v)
	if !same(v, small()) {
		t.Errorf("an argument has been changed: %v", v)
	}
	v = small()
	v.Stages = append(v.Stages, stages(3)...)
	kept := twin(v)
	w, e := vehicle.Without(v, 1)
	w.Stages = append(w.Stages[:1], w.Stages[2:]...)
	if e != api.OK || !same(v, kept) || !slices.Equal(v.Drag, kept.Drag) {
		t.Errorf("an argument has been changed: %v", v)
	}
}
