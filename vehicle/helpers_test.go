package vehicle_test

import (
	"math/big"
	"slices"
	"strings"
	"testing"

	"ullage/api"
	"ullage/vehicle"
)

// noNumber is the least int64.
const noNumber = -api.MostNum - 1

// quantity returns a quantity with the exponents of km, s and t.
func quantity(num, den, km, s, t int) api.Quantity {
	return api.Quantity{Num: num, Den: den, Km: km, S: s, T: t}
}

// plain returns a quantity without a unit.
func plain(num, den int) api.Quantity { return api.Quantity{Num: num, Den: den} }

// ints returns a span of integers.
func ints(low, high int) api.Span {
	return api.Span{Lo: api.Num(low) * api.One, Hi: api.Num(high) * api.One}
}

// point returns the span of one number.
func point(n api.Num) api.Span { return api.Span{Lo: n, Hi: n} }

// wantSpan checks a span and an error.
func wantSpan(t *testing.T, what string, a api.Span, e api.Errno, want api.Span, wantE api.Errno) {
	t.Helper()
	if a != want || e != wantE {
		t.Errorf("%s: %v, error %d; want %v, error %d", what, a, e, want, wantE)
	}
}

// wantQuantity checks a quantity and an error.
func wantQuantity(t *testing.T, what string, q api.Quantity, e api.Errno, want api.Quantity, wantE api.Errno) {
	t.Helper()
	if q != want || e != wantE {
		t.Errorf("%s: %v, error %d; want %v, error %d", what, q, e, want, wantE)
	}
}

// rat returns the number that n stands for.
func rat(n api.Num) *big.Rat { return big.NewRat(int64(n), 1<<32) }

// floor rounds x 2^32 down.
func floor(x *big.Rat) *big.Int {
	y := new(big.Rat).Mul(x, big.NewRat(1<<32, 1))
	return new(big.Int).Div(y.Num(), y.Denom())
}

// ceiling rounds x 2^32 up.
func ceiling(x *big.Rat) *big.Int {
	n := floor(new(big.Rat).Neg(x))
	return n.Neg(n)
}

// fits reports whether an integer is a valid number.
func fits(n *big.Int) bool { return n.IsInt64() && n.Int64() != int64(noNumber) }

// roundOut returns the least span that contains all from low to high.
func roundOut(low, high *big.Rat) (api.Span, api.Errno) {
	a, b := floor(low), ceiling(high)
	if !fits(a) || !fits(b) {
		return api.Span{}, api.ErrRange
	}
	return api.Span{Lo: api.Num(a.Int64()), Hi: api.Num(b.Int64())}, api.OK
}

// sample makes numbers in a fixed order that looks like none.
type sample struct{ state uint64 }

// next returns a number of 64 bits.
func (s *sample) next() uint64 {
	s.state = s.state*6364136223846793005 + 1442695040888963407
	x := s.state
	x ^= x >> 29
	x *= 0xbf58476d1ce4e5b9
	return x ^ x>>32
}

// below returns a number from 0 to below n.
func (s *sample) below(n int) int { return int(s.next() % uint64(n)) }

// num returns a number from low to high; ones near to low are as frequent as others.
func (s *sample) num(low, high api.Num) api.Num {
	wide := uint64(high-low) >> (s.next() % 52)
	return low + api.Num(s.next()%(wide+1))
}

// bounds returns a span within one.
func (s *sample) bounds(low, high api.Num) api.Span {
	a, b := s.num(low, high), s.num(low, high)
	return api.Span{Lo: min(a, b), Hi: max(a, b)}
}

// in returns a number of a span.
func (s *sample) in(a api.Span) api.Num {
	return a.Lo + api.Num(s.next()%(uint64(a.Hi-a.Lo)+1))
}

// name returns a name that differs for each n.
func name(prefix string, n int) string {
	return prefix + "-" + strings.Repeat("x", n/10) + string(rune('0'+n%10))
}

// vehicle returns a valid vehicle.
func (s *sample) vehicle() api.Vehicle {
	v := api.Vehicle{
		Name:    "Sample-1",
		Payload: s.bounds(0, api.MaxPlace),
		Axial:   s.num(1, api.MaxPlace),
		Bending: s.num(1, api.MaxPlace),
	}
	for i := range 1 + s.below(api.MaxStages) {
		x := api.Stage{Name: name("stage", i), Dry: s.bounds(1, api.MaxPlace), Prop: s.bounds(0, api.MaxPlace)}
		for j := range s.below(4) {
			x.Engines = append(x.Engines, s.engine(name("e"+x.Name, j)))
		}
		v.Stages = append(v.Stages, x)
	}
	var at api.Num
	for range 1 + s.below(6) {
		v.Drag = append(v.Drag, api.Point{At: at, Value: s.bounds(0, api.MaxPlace)})
		at += 1 + s.num(0, api.MaxPlace/8)
	}
	return v
}

// engine returns a valid engine.
func (s *sample) engine(name string) api.Engine {
	return api.Engine{
		Name: name, Count: 1 + s.below(api.MaxCount),
		Thrust: s.bounds(1, api.MaxPlace), Flow: s.bounds(1, api.MaxPlace), Least: s.num(0, api.One),
		Start: s.bounds(0, api.MaxPlace), Stop: s.bounds(0, api.MaxPlace),
	}
}

// small returns a valid vehicle with two stages and three kinds of engines.
func small() api.Vehicle {
	low := api.Engine{Name: "low", Count: 2, Thrust: ints(2, 3), Flow: ints(1, 2), Least: api.One / 2, Start: ints(1, 2), Stop: ints(0, 1)}
	side, high := low, low
	side.Name, side.Count, side.Least = "side", 4, api.One/4
	high.Name, high.Count, high.Least = "high", 1, 0
	return api.Vehicle{
		Name: "small",
		Stages: []api.Stage{
			{Name: "first", Dry: ints(3, 4), Prop: ints(10, 12), Engines: []api.Engine{low, side}},
			{Name: "second", Dry: ints(1, 1), Prop: ints(5, 6), Engines: []api.Engine{high}},
		},
		Payload: ints(1, 2),
		Drag:    []api.Point{{At: 0, Value: ints(1, 2)}, {At: 10 * api.One, Value: ints(3, 6)}},
		Axial:   api.One / 16,
		Bending: 35000 * api.One,
	}
}

// sameEngines reports whether two lists of engines are the same; nil and empty are.
func sameEngines(a, b []api.Engine) bool { return slices.Equal(a, b) }

// same reports whether two vehicles are the same.
func same(a, b api.Vehicle) bool {
	stages := slices.EqualFunc(a.Stages, b.Stages, func(x, y api.Stage) bool {
		return x.Name == y.Name && x.Dry == y.Dry && x.Prop == y.Prop && sameEngines(x.Engines, y.Engines)
	})
	return stages && slices.Equal(a.Drag, b.Drag) &&
		a.Name == b.Name && a.Payload == b.Payload && a.Axial == b.Axial && a.Bending == b.Bending
}

// twin returns a vehicle that shares no memory with another one.
func twin(v api.Vehicle) api.Vehicle {
	v.Stages = slices.Clone(v.Stages)
	for i, s := range v.Stages {
		v.Stages[i].Engines = slices.Clone(s.Engines)
	}
	v.Drag = slices.Clone(v.Drag)
	return v
}

// wrongVehicles are vehicles that are not valid, each for another reason.
func wrongVehicles() []api.Vehicle {
	out := []api.Vehicle{{}}
	for _, f := range faults() {
		v := small()
		f.make(&v)
		out = append(out, v)
	}
	return out
}

// wantFault checks the place and the error of a text that is no quantity.
func wantFault(t *testing.T, s string, at int, e api.Errno) {
	t.Helper()
	q, gotAt, gotE := vehicle.Read(s)
	if q != (api.Quantity{}) || gotAt != at || gotE != e {
		t.Errorf("Read(%q): %v, error %d at %d; want error %d at %d", s, q, gotE, gotAt, e, at)
	}
}
