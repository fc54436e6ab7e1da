package flight_test

import (
	"math/big"
	"testing"

	"ullage/api"
	"ullage/flight"
	"ullage/span"
)

// noNumber is the least int64.
const noNumber = -api.MostNum - 1

// huge is a number whose square does not fit.
const huge = api.One << 20

// point returns the span of one number.
func point(n api.Num) api.Span { return api.Span{Lo: n, Hi: n} }

// whole returns the span of an integer.
func whole(n int) api.Span { return point(api.Num(n) * api.One) }

// ints returns a span of integers.
func ints(low, high int) api.Span {
	return api.Span{Lo: api.Num(low) * api.One, Hi: api.Num(high) * api.One}
}

// box returns a box of integers.
func box(x, y, z int) api.Box { return api.Box{whole(x), whole(y), whole(z)} }

// wrongSpans are spans that are not valid, for each reason.
func wrongSpans() []api.Span {
	return []api.Span{{Lo: 1, Hi: 0}, {Lo: noNumber, Hi: 0}, {Lo: noNumber, Hi: noNumber}, {Lo: 0, Hi: noNumber}}
}

// calm is an arc without forces.
func calm(time, step api.Num) api.Arc { return api.Arc{Time: time, Step: step} }

// short is an arc without forces, for what does not depend on its time.
func short() api.Arc { return calm(api.One, api.One) }

// resting is a state of 1 t in the centre.
func resting() api.State { return api.State{M: whole(1)} }

// want checks a result and its error.
func want[T comparable](t *testing.T, what string, got T, e api.Errno, wanted T, wantedE api.Errno) {
	t.Helper()
	if got != wanted || e != wantedE {
		t.Errorf("%s: %v, error %d; want %v, error %d", what, got, e, wanted, wantedE)
	}
}

// failed checks that a step has an error, and no results.
func failed(t *testing.T, what string, next api.State, tube api.Tube, e, wanted api.Errno) {
	t.Helper()
	if next != (api.State{}) || tube != (api.Tube{}) || e != wanted {
		t.Errorf("%s: %v, %v, error %d; want error %d", what, next, tube, e, wanted)
	}
}

// grounded checks that a flight has an error, and no results.
func grounded(t *testing.T, what string, stops []api.State, tubes []api.Tube, e, wanted api.Errno) {
	t.Helper()
	if len(stops) != 0 || len(tubes) != 0 || e != wanted {
		t.Errorf("%s: %d stops, %d tubes, error %d; want error %d", what, len(stops), len(tubes), e, wanted)
	}
}

// contains reports whether all spans of one state are within those of another one.
func contains(all, part api.State) bool {
	_, e := flight.Joint(all, part)
	sure, _ := flight.Inside(part, all.P, all.V)
	return e == api.OK && sure && span.Within(part.M, all.M)
}

// rat returns the number that n stands for.
func rat(n api.Num) *big.Rat { return big.NewRat(int64(n), 1<<32) }

// inside reports whether a span contains an exact number.
func inside(a api.Span, x *big.Rat) bool {
	return rat(a.Lo).Cmp(x) <= 0 && x.Cmp(rat(a.Hi)) <= 0
}

// float returns the number that n stands for.
func float(n api.Num) float64 { return float64(n) / float64(api.One) }

// sample makes numbers in a fixed order that looks like none.
type sample struct{ state uint64 }

// next returns a number of 64 bits.
func (s *sample) next() uint64 {
	s.state = s.state*6364136223846793005 + 1442695040888963407
	n := s.state
	n ^= n >> 29
	n *= 0xbf58476d1ce4e5b9
	return n ^ n>>32
}

// below returns a number from 0 to below n.
func (s *sample) below(n int) int { return int(s.next() % uint64(n)) }

// num returns a number from -size to size; small ones are as frequent as great ones.
func (s *sample) num(size api.Num) api.Num {
	n := api.Num(s.next()%(uint64(size)+1)) >> s.below(40)
	if s.below(2) == 0 {
		return -n
	}
	return n
}

// in returns a number of a span; its ends are frequent.
func (s *sample) in(a api.Span) api.Num {
	switch s.below(4) {
	case 0:
		return a.Lo
	case 1:
		return a.Hi
	}
	return a.Lo + api.Num(s.next()%(uint64(a.Hi-a.Lo)+1))
}

// part returns a span within another one.
func (s *sample) part(a api.Span) api.Span {
	m, n := s.in(a), s.in(a)
	return api.Span{Lo: min(m, n), Hi: max(m, n)}
}

// near returns a narrow span from low to high.
func (s *sample) near(low, high api.Num) api.Span {
	n := s.in(api.Span{Lo: low, Hi: high})
	return api.Span{Lo: n, Hi: min(high, n+api.Num(s.next()%uint64(1+(high-low)/64)))}
}
