package nav_test

import (
	"math/big"
	"slices"
	"testing"

	"ullage/api"
	"ullage/span"
)

// noNumber is the least int64.
const noNumber = -api.MostNum - 1

// huge is a number whose square does not fit.
const huge = 1 << 20

// The kinds of measurements.
const (
	distance = iota
	departure
	alongPlace
	alongVelocity
)

// point returns the span of one number.
func point(n api.Num) api.Span { return api.Span{Lo: n, Hi: n} }

// whole returns the span of an integer.
func whole(n int) api.Span { return point(api.Num(n) * api.One) }

// ints returns a span of integers.
func ints(low, high int) api.Span {
	return api.Span{Lo: api.Num(low) * api.One, Hi: api.Num(high) * api.One}
}

// parts returns the span of all numbers from a / b to c / b.
func parts(a, c, b int) api.Span {
	low, _ := span.Ratio(a, b)
	high, _ := span.Ratio(c, b)
	return api.Span{Lo: low.Lo, Hi: high.Hi}
}

// box returns a box of integers.
func box(x, y, z int) api.Box { return api.Box{whole(x), whole(y), whole(z)} }

// all is all numbers.
func all() api.Span { return api.Span{Lo: -api.MostNum, Hi: api.MostNum} }

// at is a state with this place, at rest.
func at(p api.Box) api.State { return api.State{T: 5, P: p, M: ints(1, 2)} }

// going is a state with this velocity, in the centre.
func going(v api.Box) api.State { return api.State{T: 5, V: v, M: ints(1, 2)} }

// far is a measurement of a distance from 0.
func far(value api.Span) api.Radio { return api.Radio{Kind: distance, Value: value} }

// along is a measurement of the product of a direction and the place.
func along(dir api.Box, value api.Span) api.Radio {
	return api.Radio{Kind: alongPlace, Dir: dir, Value: value}
}

// fullState is a valid state.
func fullState() api.State {
	return api.State{T: -api.One, P: api.Box{ints(20, 22), ints(-1, 1), ints(2, 3)}, V: api.Box{ints(1, 1), ints(2, 9), ints(-3, 3)}, M: ints(4, 5)}
}

// fullRadio is a valid measurement of a kind.
func fullRadio(kind int) api.Radio {
	return api.Radio{Kind: kind, From: api.Box{ints(1, 2), ints(0, 0), ints(-4, 3)}, Dir: api.Box{ints(-1, 1), ints(0, 1), whole(1)}, Value: ints(-100, 100)}
}

// wrongSpans are spans that are not valid, for each reason.
func wrongSpans() []api.Span {
	return []api.Span{{Lo: 1, Hi: 0}, {Lo: noNumber, Hi: 0}, {Lo: noNumber, Hi: noNumber}, {Lo: 0, Hi: noNumber}}
}

// wrongStates are states that are not valid: each has one fault.
func wrongStates() []api.State {
	var l []api.State
	add := func(change func(s *api.State)) {
		s := fullState()
		change(&s)
		l = append(l, s)
	}
	for _, w := range wrongSpans() {
		add(func(s *api.State) { s.M = w })
		for i := range 3 {
			add(func(s *api.State) { s.P[i] = w })
			add(func(s *api.State) { s.V[i] = w })
		}
	}
	add(func(s *api.State) { s.T = noNumber })
	add(func(s *api.State) { s.M.Lo = 0 })
	return l
}

// wrongRadios are measurements that are not valid: each has one fault.
func wrongRadios() []api.Radio {
	var l []api.Radio
	add := func(kind int, change func(m *api.Radio)) {
		m := fullRadio(kind)
		change(&m)
		l = append(l, m)
	}
	for kind := range 4 {
		for _, w := range wrongSpans() {
			add(kind, func(m *api.Radio) { m.Value = w })
			for i := range 3 {
				add(kind, func(m *api.Radio) { m.From[i] = w })
				add(kind, func(m *api.Radio) { m.Dir[i] = w })
			}
		}
	}
	for _, kind := range []int{-1, 4, 5, -1 << 63, 1<<63 - 1} {
		add(kind, func(*api.Radio) {})
	}
	return l
}

// wrongPlanets are planets that are not valid.
func wrongPlanets() []api.Planet {
	l := []api.Planet{{Mu: api.Span{Lo: -1}}, {Radius: api.Span{Lo: -1}}}
	for _, w := range wrongSpans() {
		l = append(l, api.Planet{Mu: w}, api.Planet{Radius: w}, api.Planet{Oblate: w}, api.Planet{Spin: w})
		for i := range 3 {
			var p api.Planet
			p.Pull[i] = w
			l = append(l, p)
		}
	}
	return l
}

// want checks a result and its error.
func want[T comparable](t *testing.T, what string, got T, e api.Errno, wanted T, wantedE api.Errno) {
	t.Helper()
	if got != wanted || e != wantedE {
		t.Errorf("%s: %v, error %d; want %v, error %d", what, got, e, wanted, wantedE)
	}
}

// wantList checks a list and its error.
func wantList[T comparable](t *testing.T, what string, got []T, e api.Errno, wanted []T, wantedE api.Errno) {
	t.Helper()
	if !slices.Equal(got, wanted) || e != wantedE {
		t.Errorf("%s: %v, error %d; want %v, error %d", what, got, e, wanted, wantedE)
	}
}

// fused is a state, and a number of rounds.
type fused struct {
	s      api.State
	rounds int
}

// wantFused checks what Fuse returns.
func wantFused(t *testing.T, what string, s api.State, rounds int, e api.Errno, wanted fused, wantedE api.Errno) {
	t.Helper()
	want(t, what, fused{s, rounds}, e, wanted, wantedE)
}

// isPart reports whether a state is a part of another one: T and M are the same, and the places and velocities are within it.
func isPart(part, whole api.State) bool {
	for i := range 3 {
		if !span.Within(part.P[i], whole.P[i]) || !span.Within(part.V[i], whole.V[i]) {
			return false
		}
	}
	return part.T == whole.T && part.M == whole.M
}

// rat returns the number that n stands for.
func rat(n api.Num) *big.Rat { return big.NewRat(int64(n), 1<<32) }

// inside reports whether a span contains an exact number.
func inside(a api.Span, x *big.Rat) bool {
	return rat(a.Lo).Cmp(x) <= 0 && x.Cmp(rat(a.Hi)) <= 0
}

// sample makes numbers in a fixed order that looks like none.
type sample struct{ state uint64 }

// next returns a number of 64 bits.
func (s *sample) next() uint64 {
	s.state = s.state*6364136223846793005 + 1442695040888963407
	n := s.state
	n ^= n >> 29
	n *= 0xbf58476d1ce4e5b9
	return n ^ n>>32
}

// below returns a number from 0 to below n.
func (s *sample) below(n int) int { return int(s.next() % uint64(n)) }

// in returns a number of a span; its ends are frequent.
func (s *sample) in(a api.Span) api.Num {
	switch s.below(5) {
	case 0:
		return a.Lo
	case 1:
		return a.Hi
	}
	wide := uint64(a.Hi) - uint64(a.Lo)
	if wide == 1<<64-1 {
		return a.Lo
	}
	return a.Lo + api.Num(s.next()%(wide+1))
}

// part returns a span within another one.
func (s *sample) part(a api.Span) api.Span {
	m, n := s.in(a), s.in(a)
	return api.Span{Lo: min(m, n), Hi: max(m, n)}
}

// around returns a span that contains a number, and is up to so wide on each side; often it is narrow, or a point.
func (s *sample) around(n, wide api.Num) api.Span {
	side := func() api.Num {
		switch s.below(4) {
		case 0:
			return 0
		case 1:
			return api.Num(s.below(3))
		}
		return api.Num(s.next()%uint64(wide+1)) >> s.below(12)
	}
	low, high := n-side(), n+side()
	if low > n || low == noNumber {
		low = -api.MostNum
	}
	if high < n {
		high = api.MostNum
	}
	return api.Span{Lo: low, Hi: high}
}
