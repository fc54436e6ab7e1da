package span_test

import (
	"math"
	"math/big"
	"testing"

	"ullage/api"
	"ullage/span"
)

// everyPair calls f with all pairs of spans of the numbers at which something may change.
func everyPair(f func(a, b api.Span)) {
	l := spans(numbers())
	for _, a := range l {
		for _, b := range l {
			f(a, b)
		}
	}
}

// TestSums: P1.3.
func TestSums(t *testing.T) {
	a, e := span.Add(ints(1, 2), ints(-4, 8))
	wantSpan(t, "Add", a, e, ints(-3, 10), api.OK)
	a, e = span.Sub(ints(1, 2), ints(-4, 8))
	wantSpan(t, "Sub", a, e, ints(-7, 6), api.OK)
	a, e = span.Add(point(api.MostNum), point(1))
	wantSpan(t, "Add that is too great", a, e, api.Span{}, api.ErrRange)
	a, e = span.Add(point(-api.MostNum), point(-1))
	wantSpan(t, "Add that is the least int64", a, e, api.Span{}, api.ErrRange)
	a, e = span.Sub(point(-api.MostNum), point(1))
	wantSpan(t, "Sub that is the least int64", a, e, api.Span{}, api.ErrRange)
	everyPair(func(a, b api.Span) {
		got, e := span.Add(a, b)
		want, wantE := atCorners(sum, a, b)
		wantSpan(t, "Add", got, e, want, wantE)
		got, e = span.Sub(a, b)
		want, wantE = atCorners(difference, a, b)
		wantSpan(t, "Sub", got, e, want, wantE)
	})
}

// TestNeg: P1.3.
func TestNeg(t *testing.T) {
	for _, a := range spans(numbers()) {
		got, e := span.Neg(a)
		wantSpan(t, "Neg", got, e, api.Span{Lo: -a.Hi, Hi: -a.Lo}, api.OK)
	}
}

// TestScale: P1.3.
func TestScale(t *testing.T) {
	a, e := span.Scale(ints(1, 2), -3)
	wantSpan(t, "Scale", a, e, ints(-6, -3), api.OK)
	a, e = span.Scale(api.Span{Lo: -1, Hi: 1}, math.MaxInt)
	wantSpan(t, "Scale by the greatest integer", a, e, api.Span{Lo: -api.MostNum, Hi: api.MostNum}, api.OK)
	a, e = span.Scale(point(0), math.MinInt)
	wantSpan(t, "Scale of 0", a, e, point(0), api.OK)
	a, e = span.Scale(point(1), math.MinInt)
	wantSpan(t, "Scale by the least integer", a, e, api.Span{}, api.ErrRange)
	for _, a := range spans(numbers()) {
		for _, n := range wholes() {
			got, e := span.Scale(a, n)
			want, wantE := roundOut(product(rat(a.Lo), ratOf(n)), product(rat(a.Hi), ratOf(n)))
			wantSpan(t, "Scale", got, e, want, wantE)
		}
	}
}

// TestMul: P1.4.
func TestMul(t *testing.T) {
	a, e := span.Mul(ints(-1, 2), ints(3, 4))
	wantSpan(t, "Mul", a, e, ints(-4, 8), api.OK)
	a, e = span.Mul(point(1), point(1))
	wantSpan(t, "Mul of tiny numbers", a, e, api.Span{Lo: 0, Hi: 1}, api.OK)
	a, e = span.Mul(point(1), point(-1))
	wantSpan(t, "Mul of tiny numbers", a, e, api.Span{Lo: -1, Hi: 0}, api.OK)
	a, e = span.Mul(point(api.MostNum), ints(-1, 1))
	wantSpan(t, "Mul by one", a, e, api.Span{Lo: -api.MostNum, Hi: api.MostNum}, api.OK)
	a, e = span.Mul(point(justTooMuch()), point(api.One+1))
	wantSpan(t, "Mul that is rounded out of range", a, e, api.Span{}, api.ErrRange)
	a, e = span.Mul(ints(1<<20, 1<<20), ints(1<<20, 1<<20))
	wantSpan(t, "Mul that is too great", a, e, api.Span{}, api.ErrRange)
	everyPair(func(a, b api.Span) {
		got, e := span.Mul(a, b)
		want, wantE := atCorners(product, a, b)
		wantSpan(t, "Mul", got, e, want, wantE)
	})
}

// TestDiv: P1.4.
func TestDiv(t *testing.T) {
	a, e := span.Div(ints(1, 2), ints(-4, -2))
	wantSpan(t, "Div", a, e, api.Span{Lo: -api.One, Hi: -api.One / 4}, api.OK)
	a, e = span.Div(ints(1, 2), ints(-1, 1))
	wantSpan(t, "Div by 0", a, e, api.Span{}, api.ErrZero)
	a, e = span.Div(point(1), point(api.MostNum))
	wantSpan(t, "Div that is tiny", a, e, api.Span{Lo: 0, Hi: 1}, api.OK)
	a, e = span.Div(ints(1, 1), point(2))
	wantSpan(t, "Div that is too great", a, e, api.Span{}, api.ErrRange)
	a, e = span.Div(ints(1, 1), point(3))
	wantSpan(t, "Div that fits", a, e, api.Span{Lo: 6148914691236517205, Hi: 6148914691236517206}, api.OK)
	everyPair(func(a, b api.Span) {
		got, e := span.Div(a, b)
		if b.Lo <= 0 && b.Hi >= 0 {
			wantSpan(t, "Div by 0", got, e, api.Span{}, api.ErrZero)
			return
		}
		want, wantE := atCorners(quotient, a, b)
		wantSpan(t, "Div", got, e, want, wantE)
	})
}

// withZero returns some numbers, and 0 if a span contains it.
func withZero(a api.Span, l ...*big.Rat) []*big.Rat {
	if a.Lo <= 0 && a.Hi >= 0 {
		return append(l, new(big.Rat))
	}
	return l
}

// TestSquare: P1.5.
func TestSquare(t *testing.T) {
	a, e := span.Square(ints(-2, 1))
	wantSpan(t, "Square", a, e, ints(0, 4), api.OK)
	a, e = span.Square(ints(-3, -2))
	wantSpan(t, "Square of negative numbers", a, e, ints(4, 9), api.OK)
	a, e = span.Square(point(1))
	wantSpan(t, "Square of a tiny number", a, e, api.Span{Lo: 0, Hi: 1}, api.OK)
	a, e = span.Square(ints(46341, 46341))
	wantSpan(t, "Square that is too great", a, e, api.Span{}, api.ErrRange)
	a, e = span.Square(ints(-46340, 46340))
	wantSpan(t, "Square that fits", a, e, ints(0, 46340*46340), api.OK)
	for _, a := range spans(numbers()) {
		got, e := span.Square(a)
		low, high := rat(a.Lo), rat(a.Hi)
		want, wantE := roundOut(withZero(a, product(low, low), product(high, high))...)
		wantSpan(t, "Square", got, e, want, wantE)
	}
}

// exactRoot returns the integers next to the root of a number that is not negative.
func exactRoot(n api.Num) (low, high *big.Int) {
	x := new(big.Int).Lsh(big.NewInt(int64(n)), 32)
	low = new(big.Int).Sqrt(x)
	high = new(big.Int).Set(low)
	if new(big.Int).Mul(low, low).Cmp(x) < 0 {
		high.Add(high, big.NewInt(1))
	}
	return low, high
}

// TestRoot: P1.5.
func TestRoot(t *testing.T) {
	a, e := span.Root(ints(-9, 4))
	wantSpan(t, "Root", a, e, ints(0, 2), api.OK)
	a, e = span.Root(ints(2, 2))
	wantSpan(t, "Root of 2", a, e, api.Span{Lo: 6074000999, Hi: 6074001000}, api.OK)
	a, e = span.Root(ints(-2, -1))
	wantSpan(t, "Root of negative numbers", a, e, api.Span{}, api.ErrRange)
	a, e = span.Root(point(-1))
	wantSpan(t, "Root of the greatest negative number", a, e, api.Span{}, api.ErrRange)
	a, e = span.Root(api.Span{Lo: -1, Hi: 0})
	wantSpan(t, "Root of 0", a, e, point(0), api.OK)
	a, e = span.Root(point(1))
	wantSpan(t, "Root of the least number above 0", a, e, point(1<<16), api.OK)
	s := sample{3}
	l := spans(numbers())
	for range 3000 {
		l = append(l, s.span())
	}
	for i := range 300 {
		square := api.Num(i*i) * api.One
		l = append(l, point(square), point(square+1), api.Span{Lo: max(square-1, 0), Hi: square + 1})
	}
	for _, a := range l {
		got, e := span.Root(a)
		if a.Hi < 0 {
			wantSpan(t, "Root", got, e, api.Span{}, api.ErrRange)
			continue
		}
		low, _ := exactRoot(max(a.Lo, 0))
		_, high := exactRoot(a.Hi)
		want, wantE := fitting(low, high)
		wantSpan(t, "Root", got, e, want, wantE)
	}
}

// TestAbs: P1.5.
func TestAbs(t *testing.T) {
	for _, a := range spans(numbers()) {
		got, e := span.Abs(a)
		low, high := rat(a.Lo), rat(a.Hi)
		want, wantE := roundOut(withZero(a, low.Abs(low), high.Abs(high))...)
		wantSpan(t, "Abs", got, e, want, wantE)
	}
}

// TestMostLeast: P1.5.
func TestMostLeast(t *testing.T) {
	a, e := span.Most(ints(1, 5), ints(2, 3))
	wantSpan(t, "Most", a, e, ints(2, 5), api.OK)
	a, e = span.Least(ints(1, 5), ints(2, 3))
	wantSpan(t, "Least", a, e, ints(1, 3), api.OK)
	everyPair(func(a, b api.Span) {
		got, e := span.Most(a, b)
		wantSpan(t, "Most", got, e, api.Span{Lo: max(a.Lo, b.Lo), Hi: max(a.Hi, b.Hi)}, api.OK)
		got, e = span.Least(a, b)
		wantSpan(t, "Least", got, e, api.Span{Lo: min(a.Lo, b.Lo), Hi: min(a.Hi, b.Hi)}, api.OK)
	})
}
