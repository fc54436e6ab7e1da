package steer_test

import (
	"math/big"
	"slices"
	"testing"

	"ullage/api"
	"ullage/span"
)

// noNumber is the least int64.
const noNumber = -api.MostNum - 1

// point returns the span of one number.
func point(n api.Num) api.Span { return api.Span{Lo: n, Hi: n} }

// whole returns the span of an integer.
func whole(n int) api.Span { return point(api.Num(n) * api.One) }

// ints returns a span of integers.
func ints(low, high int) api.Span {
	return api.Span{Lo: api.Num(low) * api.One, Hi: api.Num(high) * api.One}
}

// points returns integers as points.
func points(l ...int) []api.Span {
	var out []api.Span
	for _, n := range l {
		out = append(out, whole(n))
	}
	return out
}

// all is all numbers.
func all() api.Span { return api.Span{Lo: -api.MostNum, Hi: api.MostNum} }

// wrongSpans are spans that are not valid, for each reason.
func wrongSpans() []api.Span {
	return []api.Span{{Lo: 1, Hi: 0}, {Lo: noNumber, Hi: 0}, {Lo: noNumber, Hi: noNumber}, {Lo: 0, Hi: noNumber}}
}

// want checks a result and its error.
func want[T comparable](t *testing.T, what string, got T, e api.Errno, wanted T, wantedE api.Errno) {
	t.Helper()
	if got != wanted || e != wantedE {
		t.Errorf("%s: %v, error %d; want %v, error %d", what, got, e, wanted, wantedE)
	}
}

// wantList checks a list and its error.
func wantList[T comparable](t *testing.T, what string, got []T, e api.Errno, wanted []T, wantedE api.Errno) {
	t.Helper()
	if !slices.Equal(got, wanted) || e != wantedE {
		t.Errorf("%s: %v, error %d; want %v, error %d", what, got, e, wanted, wantedE)
	}
}

// two are two spans that a function returns.
type two struct{ first, second api.Span }

// wantTwo checks two spans and their error.
func wantTwo(t *testing.T, what string, first, second api.Span, e api.Errno, wanted two, wantedE api.Errno) {
	t.Helper()
	want(t, what, two{first, second}, e, wanted, wantedE)
}

// book does the operations of layer 1 that a chapter's line has, and keeps their first error.
type book struct{ e api.Errno }

func (b *book) note(a api.Span, e api.Errno) api.Span {
	if b.e == api.OK {
		b.e = e
	}
	return a
}

func (b *book) add(x, y api.Span) api.Span { return b.note(span.Add(x, y)) }

func (b *book) sub(x, y api.Span) api.Span { return b.note(span.Sub(x, y)) }

func (b *book) mul(x, y api.Span) api.Span { return b.note(span.Mul(x, y)) }

func (b *book) div(x, y api.Span) api.Span { return b.note(span.Div(x, y)) }

func (b *book) scale(x api.Span, n int) api.Span { return b.note(span.Scale(x, n)) }

// two returns two results, unless there was an error.
func (b *book) two(first, second api.Span) (two, api.Errno) {
	if b.e != api.OK {
		return two{}, b.e
	}
	return two{first, second}, api.OK
}

// rat returns the number that n stands for.
func rat(n api.Num) *big.Rat { return big.NewRat(int64(n), 1<<32) }

// float returns the number that n stands for, nearly.
func float(n api.Num) float64 { return float64(n) / float64(api.One) }

// inside reports whether a span contains an exact number.
func inside(a api.Span, x *big.Rat) bool {
	return rat(a.Lo).Cmp(x) <= 0 && x.Cmp(rat(a.Hi)) <= 0
}

// sample makes numbers in a fixed order that looks like none.
type sample struct{ state uint64 }

// next returns a number of 64 bits.
func (s *sample) next() uint64 {
	s.state = s.state*6364136223846793005 + 1442695040888963407
	n := s.state
	n ^= n >> 29
	n *= 0xbf58476d1ce4e5b9
	return n ^ n>>32
}

// below returns a number from 0 to below n.
func (s *sample) below(n int) int { return int(s.next() % uint64(n)) }

// num returns a number from -size to size; small ones are as frequent as great ones.
func (s *sample) num(size api.Num) api.Num {
	n := api.Num(s.next() % (uint64(size) + 1))
	if s.below(2) == 0 {
		n >>= s.below(40)
	}
	if s.below(2) == 0 {
		return -n
	}
	return n
}

// any returns a span of numbers from -size to size.
func (s *sample) any(size api.Num) api.Span {
	m, n := s.num(size), s.num(size)
	switch s.below(3) {
	case 0:
		n = m
	case 1:
		n = min(size, m+api.Num(s.below(1<<20)))
	}
	return api.Span{Lo: min(m, n), Hi: max(m, n)}
}

// positive returns a span of numbers that are not negative, up to size.
func (s *sample) positive(size api.Num) api.Span {
	a := s.any(size)
	return api.Span{Lo: max(0, a.Lo), Hi: max(0, a.Hi)}
}

// near returns a span of numbers from -size to size, often a narrow one.
func (s *sample) near(size api.Num) api.Span {
	middle := api.Num(s.next()%(2*uint64(size)+1)) - size
	by := api.Num(s.next()%uint64(size/2)) >> s.below(20)
	return api.Span{Lo: max(-size, middle-by), Hi: min(size, middle+by)}
}

// in returns a number of a span; its ends are frequent.
func (s *sample) in(a api.Span) api.Num {
	switch s.below(4) {
	case 0:
		return a.Lo
	case 1:
		return a.Hi
	}
	wide := uint64(a.Hi) - uint64(a.Lo)
	if wide == 1<<64-1 {
		return a.Lo
	}
	return a.Lo + api.Num(s.next()%(wide+1))
}

// part returns a span within another one.
func (s *sample) part(a api.Span) api.Span {
	m, n := s.in(a), s.in(a)
	return api.Span{Lo: min(m, n), Hi: max(m, n)}
}
