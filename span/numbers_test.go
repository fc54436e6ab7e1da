package span_test

import (
	"math"
	"testing"

	"ullage/api"
	"ullage/span"
)

// TestCheck: P1.1.
func TestCheck(t *testing.T) {
	for _, a := range wrongSpans() {
		if e := span.Check(a); e != api.ErrArg {
			t.Errorf("Check(%v) is %d", a, e)
		}
	}
	for _, a := range spans(numbers()) {
		if e := span.Check(a); e != api.OK {
			t.Errorf("Check(%v) is %d", a, e)
		}
	}
}

// TestPoint: P1.1.
func TestPoint(t *testing.T) {
	for _, n := range numbers() {
		a, e := span.Point(n)
		wantSpan(t, "Point", a, e, api.Span{Lo: n, Hi: n}, api.OK)
	}
	a, e := span.Point(noNumber)
	wantSpan(t, "Point of no number", a, e, api.Span{}, api.ErrArg)
}

// TestOf: P1.1.
func TestOf(t *testing.T) {
	for _, n := range []int{0, 1, -1, -3, 1000, api.MaxWhole, -api.MaxWhole} {
		a, e := span.Of(n)
		wantSpan(t, "Of", a, e, ints(n, n), api.OK)
	}
	for _, n := range []int{1 << 31, -1 << 31, 1 << 32, -1 << 32, 1<<32 + 1, math.MaxInt, math.MinInt, math.MinInt + 1} {
		a, e := span.Of(n)
		wantSpan(t, "Of an integer that is too great", a, e, api.Span{}, api.ErrRange)
	}
}

// wholes are integers at which a quotient may change.
func wholes() []int {
	return []int{
		math.MinInt, math.MinInt + 1, -1 << 62, -1<<32 - 1, -1 << 32, -1 << 31, -10, -3, -2, -1,
		0, 1, 2, 3, 7, 10, 1<<31 - 1, 1 << 31, 1<<32 - 1, 1 << 32, 1 << 62, math.MaxInt - 1, math.MaxInt,
	}
}

// TestRatio: P1.1.
func TestRatio(t *testing.T) {
	a, e := span.Ratio(1, 3)
	wantSpan(t, "Ratio(1, 3)", a, e, api.Span{Lo: 1431655765, Hi: 1431655766}, api.OK)
	a, e = span.Ratio(math.MaxInt, 1<<32)
	wantSpan(t, "Ratio that is the greatest number", a, e, point(api.MostNum), api.OK)
	a, e = span.Ratio(math.MinInt, 1<<32)
	wantSpan(t, "Ratio that is the least int64", a, e, api.Span{}, api.ErrRange)
	for _, n := range wholes() {
		for _, d := range wholes() {
			a, e := span.Ratio(n, d)
			if d == 0 {
				wantSpan(t, "Ratio with 0", a, e, api.Span{}, api.ErrZero)
				continue
			}
			want, wantE := roundOut(quotient(ratOf(n), ratOf(d)))
			wantSpan(t, "Ratio", a, e, want, wantE)
		}
	}
}
