package span_test

import (
	"math/big"
	"testing"

	"ullage/api"
	"ullage/span"
)

// noNumber is the least int64.
const noNumber = -api.MostNum - 1

// ints returns a span of integers.
func ints(low, high int) api.Span {
	return api.Span{Lo: api.Num(low) * api.One, Hi: api.Num(high) * api.One}
}

// point returns the span of one number.
func point(n api.Num) api.Span { return api.Span{Lo: n, Hi: n} }

// wantSpan checks a span and an error.
func wantSpan(t *testing.T, what string, a api.Span, e api.Errno, want api.Span, wantE api.Errno) {
	t.Helper()
	if a != want || e != wantE {
		t.Errorf("%s: %v, error %d; want %v, error %d", what, a, e, want, wantE)
	}
}

// wrongSpans are spans that are not valid, for each reason.
func wrongSpans() []api.Span {
	return []api.Span{
		{Lo: 1, Hi: 0},
		{Lo: api.MostNum, Hi: -api.MostNum},
		{Lo: noNumber, Hi: 0},
		{Lo: noNumber, Hi: noNumber},
		{Lo: 0, Hi: noNumber},
	}
}

// numbers are those at which something may change, rising.
func numbers() []api.Num {
	return []api.Num{
		-api.MostNum, -api.MostNum + 1, -1 << 62, -6 * api.One / 5, -api.One, -api.One + 1, -1 << 31, -3, -1,
		0, 1, 2, 1<<31 - 1, api.One - 1, api.One, api.One + 1, 7*api.One/3 + 5, 46341 * api.One, 1<<62 + 1, justTooMuch(), api.MostNum - 1, api.MostNum,
	}
}

// justTooMuch is a number whose product with 1 + 2^-32 is between the greatest number and the next one.
func justTooMuch() api.Num {
	n := new(big.Int).Lsh(big.NewInt(1), 95)
	n.Sub(n, big.NewInt(1))
	return api.Num(n.Div(n, big.NewInt(int64(api.One)+1)).Int64())
}

// spans are all from one of some numbers to one that is not below it.
func spans(l []api.Num) []api.Span {
	var out []api.Span
	for i, low := range l {
		for _, high := range l[i:] {
			out = append(out, api.Span{Lo: low, Hi: high})
		}
	}
	return out
}

// rat returns the number that n stands for.
func rat(n api.Num) *big.Rat { return big.NewRat(int64(n), 1<<32) }

// ratOf returns an integer.
func ratOf(n int) *big.Rat { return new(big.Rat).SetInt64(int64(n)) }

// floor rounds x 2^32 down.
func floor(x *big.Rat) *big.Int {
	y := new(big.Rat).Mul(x, big.NewRat(1<<32, 1))
	return new(big.Int).Div(y.Num(), y.Denom())
}

// fitting returns the span of two integers, if both are valid numbers.
func fitting(low, high *big.Int) (api.Span, api.Errno) {
	for _, n := range []*big.Int{low, high} {
		if !n.IsInt64() || n.Int64() == int64(noNumber) {
			return api.Span{}, api.ErrRange
		}
	}
	return api.Span{Lo: api.Num(low.Int64()), Hi: api.Num(high.Int64())}, api.OK
}

// roundOut rounds out a set from the least one to the greatest one of some numbers.
func roundOut(l ...*big.Rat) (api.Span, api.Errno) {
	low, high := l[0], l[0]
	for _, x := range l {
		if x.Cmp(low) < 0 {
			low = x
		}
		if x.Cmp(high) > 0 {
			high = x
		}
	}
	up := floor(new(big.Rat).Neg(high))
	return fitting(floor(low), up.Neg(up))
}

// atCorners rounds out what an operation has at the corners of two spans.
func atCorners(f func(x, y *big.Rat) *big.Rat, a, b api.Span) (api.Span, api.Errno) {
	return roundOut(f(rat(a.Lo), rat(b.Lo)), f(rat(a.Lo), rat(b.Hi)), f(rat(a.Hi), rat(b.Lo)), f(rat(a.Hi), rat(b.Hi)))
}

func sum(x, y *big.Rat) *big.Rat        { return new(big.Rat).Add(x, y) }
func difference(x, y *big.Rat) *big.Rat { return new(big.Rat).Sub(x, y) }
func product(x, y *big.Rat) *big.Rat    { return new(big.Rat).Mul(x, y) }
func quotient(x, y *big.Rat) *big.Rat   { return new(big.Rat).Quo(x, y) }

// inside reports whether a span contains an exact number.
func inside(a api.Span, x *big.Rat) bool {
	return rat(a.Lo).Cmp(x) <= 0 && x.Cmp(rat(a.Hi)) <= 0
}

// sample makes numbers in a fixed order that looks like none.
type sample struct{ state uint64 }

// next returns a number of 64 bits.
func (s *sample) next() uint64 {
	s.state = s.state*6364136223846793005 + 1442695040888963407
	x := s.state
	x ^= x >> 29
	x *= 0xbf58476d1ce4e5b9
	return x ^ x>>32
}

// num returns a valid number; small ones are as frequent as great ones.
func (s *sample) num() api.Num {
	n := api.Num(s.next()>>1) >> (s.next() % 63)
	if s.next()%2 == 0 {
		return -n
	}
	return n
}

// span returns a valid span.
func (s *sample) span() api.Span {
	a, b := s.num(), s.num()
	return api.Span{Lo: min(a, b), Hi: max(a, b)}
}

// in returns a number of a span.
func (s *sample) in(a api.Span) api.Num {
	wide := uint64(a.Hi) - uint64(a.Lo)
	if wide == 1<<64-1 {
		return a.Lo
	}
	return a.Lo + api.Num(s.next()%(wide+1))
}

// part returns a span within another one.
func (s *sample) part(a api.Span) api.Span {
	x, y := s.in(a), s.in(a)
	return api.Span{Lo: min(x, y), Hi: max(x, y)}
}

type unary struct {
	name string
	call func(a api.Span) (api.Span, api.Errno)
}

type binary struct {
	name string
	call func(a, b api.Span) (api.Span, api.Errno)
}

// unaries are the functions of one span that return one.
func unaries() []unary {
	return []unary{
		{"Neg", span.Neg}, {"Square", span.Square}, {"Root", span.Root}, {"Abs", span.Abs},
		{"Scale", func(a api.Span) (api.Span, api.Errno) { return span.Scale(a, -3) }},
		{"Grow", func(a api.Span) (api.Span, api.Errno) { return span.Grow(a, 5) }},
		{"Split, the first", func(a api.Span) (api.Span, api.Errno) { b, _, e := span.Split(a); return b, e }},
		{"Split, the second", func(a api.Span) (api.Span, api.Errno) { _, b, e := span.Split(a); return b, e }},
		{"Look", func(a api.Span) (api.Span, api.Errno) { return span.Look(slope(), a) }},
		{"Turn, the first", func(a api.Span) (api.Span, api.Errno) { c, _, e := span.Turn(a); return c, e }},
		{"Turn, the second", func(a api.Span) (api.Span, api.Errno) { _, s, e := span.Turn(a); return s, e }},
		{"Sum", func(a api.Span) (api.Span, api.Errno) { return span.Sum([]api.Span{a, {Lo: -3, Hi: 4}}) }},
		{"Dot", func(a api.Span) (api.Span, api.Errno) {
			return span.Dot([]api.Span{a, {Hi: 1}}, []api.Span{ints(-1, 2), a})
		}},
		{"Norm", func(a api.Span) (api.Span, api.Errno) { return span.Norm([]api.Span{{Lo: -3, Hi: 4}, a}) }},
	}
}

// binaries are the functions of two spans that return one.
func binaries() []binary {
	return []binary{
		{"Add", span.Add}, {"Sub", span.Sub}, {"Mul", span.Mul}, {"Div", span.Div},
		{"Most", span.Most}, {"Least", span.Least}, {"Hull", span.Hull}, {"Meet", span.Meet},
	}
}

// TestWrongSpans: P0.1, and ErrArg before all else in each function of spans.
func TestWrongSpans(t *testing.T) {
	good := []api.Span{{}, ints(1, 2), ints(-1, 1), {Lo: -api.MostNum, Hi: api.MostNum}}
	for _, w := range wrongSpans() {
		for _, f := range unaries() {
			a, e := f.call(w)
			wantSpan(t, f.name, a, e, api.Span{}, api.ErrArg)
		}
		for _, f := range binaries() {
			for _, g := range good {
				a, e := f.call(w, g)
				wantSpan(t, f.name+", the first one wrong", a, e, api.Span{}, api.ErrArg)
				a, e = f.call(g, w)
				wantSpan(t, f.name+", the second one wrong", a, e, api.Span{}, api.ErrArg)
			}
			a, e := f.call(w, w)
			wantSpan(t, f.name+", both wrong", a, e, api.Span{}, api.ErrArg)
		}
	}
}
