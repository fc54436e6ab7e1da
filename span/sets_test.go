package span_test

import (
	"math/big"
	"testing"

	"ullage/api"
	"ullage/span"
)

// TestHullMeet: P1.6.
func TestHullMeet(t *testing.T) {
	a, e := span.Hull(ints(0, 1), ints(4, 5))
	wantSpan(t, "Hull", a, e, ints(0, 5), api.OK)
	a, e = span.Meet(ints(0, 3), ints(2, 5))
	wantSpan(t, "Meet", a, e, ints(2, 3), api.OK)
	a, e = span.Meet(ints(0, 2), ints(2, 5))
	wantSpan(t, "Meet in a point", a, e, ints(2, 2), api.OK)
	a, e = span.Meet(api.Span{Lo: 0, Hi: 1}, api.Span{Lo: 2, Hi: 3})
	wantSpan(t, "Meet of nothing", a, e, api.Span{}, api.ErrNone)
	everyPair(func(a, b api.Span) {
		got, e := span.Hull(a, b)
		wantSpan(t, "Hull", got, e, api.Span{Lo: min(a.Lo, b.Lo), Hi: max(a.Hi, b.Hi)}, api.OK)
		got, e = span.Meet(a, b)
		if a.Hi < b.Lo || b.Hi < a.Lo {
			wantSpan(t, "Meet", got, e, api.Span{}, api.ErrNone)
			return
		}
		wantSpan(t, "Meet", got, e, api.Span{Lo: max(a.Lo, b.Lo), Hi: min(a.Hi, b.Hi)}, api.OK)
	})
}

// TestGrow: P1.6.
func TestGrow(t *testing.T) {
	a, e := span.Grow(ints(1, 2), 3*api.One)
	wantSpan(t, "Grow", a, e, ints(-2, 5), api.OK)
	for _, by := range []api.Num{-1, -api.One, -api.MostNum, noNumber} {
		a, e = span.Grow(ints(1, 2), by)
		wantSpan(t, "Grow by less than 0", a, e, api.Span{}, api.ErrArg)
		a, e = span.Grow(point(api.MostNum), by)
		wantSpan(t, "Grow by less than 0", a, e, api.Span{}, api.ErrArg)
	}
	a, e = span.Grow(point(api.MostNum), 1)
	wantSpan(t, "Grow that is too great", a, e, api.Span{}, api.ErrRange)
	a, e = span.Grow(point(-api.MostNum), 1)
	wantSpan(t, "Grow to the least int64", a, e, api.Span{}, api.ErrRange)
	for _, a := range spans(numbers()) {
		for _, by := range numbers() {
			if by < 0 {
				continue
			}
			got, e := span.Grow(a, by)
			want, wantE := roundOut(difference(rat(a.Lo), rat(by)), sum(rat(a.Hi), rat(by)))
			wantSpan(t, "Grow", got, e, want, wantE)
		}
	}
}

// exactMid rounds the middle of a span down.
func exactMid(a api.Span) api.Num {
	m := new(big.Int).Add(big.NewInt(int64(a.Lo)), big.NewInt(int64(a.Hi)))
	return api.Num(m.Div(m, big.NewInt(2)).Int64())
}

// TestMidSplit: P1.6.
func TestMidSplit(t *testing.T) {
	for _, c := range []struct {
		a    api.Span
		want api.Num
	}{
		{ints(0, 1), api.One / 2},
		{api.Span{Lo: 0, Hi: 1}, 0},
		{api.Span{Lo: -1, Hi: 0}, -1},
		{api.Span{Lo: -3, Hi: -2}, -3},
		{api.Span{Lo: -api.MostNum, Hi: api.MostNum}, 0},
		{api.Span{Lo: api.MostNum - 1, Hi: api.MostNum}, api.MostNum - 1},
		{api.Span{Lo: -api.MostNum, Hi: -api.MostNum + 1}, -api.MostNum},
	} {
		if m, e := span.Mid(c.a); m != c.want || e != api.OK {
			t.Errorf("Mid(%v) is %d, error %d; want %d", c.a, m, e, c.want)
		}
	}
	for _, a := range spans(numbers()) {
		want := exactMid(a)
		if m, e := span.Mid(a); m != want || e != api.OK {
			t.Errorf("Mid(%v) is %d, error %d; want %d", a, m, e, want)
		}
		low, high, e := span.Split(a)
		wantSpan(t, "Split, the first", low, e, api.Span{Lo: a.Lo, Hi: want}, api.OK)
		wantSpan(t, "Split, the second", high, e, api.Span{Lo: want, Hi: a.Hi}, api.OK)
	}
	for _, a := range wrongSpans() {
		if m, e := span.Mid(a); m != 0 || e != api.ErrArg {
			t.Errorf("Mid(%v) is %d, error %d", a, m, e)
		}
		if low, high, e := span.Split(a); low != (api.Span{}) || high != (api.Span{}) || e != api.ErrArg {
			t.Errorf("Split(%v) is %v, %v, error %d", a, low, high, e)
		}
	}
}

// TestWide: P1.6.
func TestWide(t *testing.T) {
	for _, a := range append(spans(numbers()), api.Span{Lo: -1, Hi: api.MostNum - 1}, api.Span{Lo: -1, Hi: api.MostNum}, api.Span{Lo: -api.MostNum, Hi: 1}) {
		w, e := span.Wide(a)
		want := new(big.Int).Sub(big.NewInt(int64(a.Hi)), big.NewInt(int64(a.Lo)))
		if !want.IsInt64() {
			if w != 0 || e != api.ErrRange {
				t.Errorf("Wide(%v) is %d, error %d", a, w, e)
			}
			continue
		}
		if w != api.Num(want.Int64()) || e != api.OK {
			t.Errorf("Wide(%v) is %d, error %d; want %v", a, w, e, want)
		}
	}
	for _, a := range wrongSpans() {
		if w, e := span.Wide(a); w != 0 || e != api.ErrArg {
			t.Errorf("Wide(%v) is %d, error %d", a, w, e)
		}
	}
}

// TestIn: P1.7.
func TestIn(t *testing.T) {
	for _, a := range spans(numbers()) {
		for _, n := range numbers() {
			if got, want := span.In(a, n), a.Lo <= n && n <= a.Hi; got != want {
				t.Errorf("In(%v, %d) is %t", a, n, got)
			}
		}
		if span.In(a, noNumber) {
			t.Errorf("In(%v) of no number is true", a)
		}
	}
	for _, a := range wrongSpans() {
		for _, n := range append(numbers(), noNumber) {
			if span.In(a, n) {
				t.Errorf("In(%v, %d) is true", a, n)
			}
		}
	}
}

// TestWithin: P1.7.
func TestWithin(t *testing.T) {
	everyPair(func(a, b api.Span) {
		if got, want := span.Within(a, b), b.Lo <= a.Lo && a.Hi <= b.Hi; got != want {
			t.Errorf("Within(%v, %v) is %t", a, b, got)
		}
	})
	all := api.Span{Lo: -api.MostNum, Hi: api.MostNum}
	for _, w := range wrongSpans() {
		if span.Within(w, all) || span.Within(point(0), w) || span.Within(w, w) {
			t.Errorf("%v, which is not valid, is within something, or something within it", w)
		}
	}
}

// TestSignOrder: P1.7.
func TestSignOrder(t *testing.T) {
	for _, c := range []struct {
		a    api.Span
		want int
	}{
		{api.Span{Lo: 1, Hi: 2}, 1}, {api.Span{Lo: 0, Hi: 2}, 0}, {point(0), 0}, {api.Span{Lo: -1, Hi: 1}, 0},
		{api.Span{Lo: -1, Hi: 0}, 0}, {api.Span{Lo: -2, Hi: -1}, -1}, {point(api.MostNum), 1}, {point(-api.MostNum), -1},
	} {
		if got := span.Sign(c.a); got != c.want {
			t.Errorf("Sign(%v) is %d, want %d", c.a, got, c.want)
		}
	}
	everyPair(func(a, b api.Span) {
		want := 0
		if a.Hi < b.Lo {
			want = -1
		} else if a.Lo > b.Hi {
			want = 1
		}
		if got := span.Order(a, b); got != want {
			t.Errorf("Order(%v, %v) is %d, want %d", a, b, got, want)
		}
	})
	for _, w := range append(wrongSpans(), api.Span{Lo: 4, Hi: 3}, api.Span{Lo: -3, Hi: -4}) {
		for _, b := range []api.Span{point(api.MostNum), point(-api.MostNum), point(0)} {
			if span.Sign(w) != 0 || span.Order(w, b) != 0 || span.Order(b, w) != 0 {
				t.Errorf("%v, which is not valid, has a sign or an order", w)
			}
		}
	}
}
