package span

import (
	"math/bits"

	"ullage/api"
)

// Turn returns the directions of half angles, by their tangents: all values of (1 - t²) / (1 + t²), and of 2 t / (1 + t²), rounded out.
func Turn(t api.Span) (c, s api.Span, e api.Errno) {
	sizes, e := Abs(t)
	if e != api.OK {
		return api.Span{}, api.Span{}, e
	}
	if sizes.Hi > api.One {
		return api.Span{}, api.Span{}, api.ErrRange
	}
	// The first value falls with the size of t, the second one rises with t, up to 1.
	if c, e = ends(sizes, cosine); e != api.OK {
		return api.Span{}, api.Span{}, e
	}
	if s, e = ends(t, sine); e != api.OK {
		return api.Span{}, api.Span{}, e
	}
	return c, s, api.OK
}

// cosine returns (1 - t²) / (1 + t²), rounded out.
func cosine(t api.Num) (api.Span, api.Errno) {
	a, e := turned(api.One, t)
	if e != api.OK {
		return api.Span{}, e
	}
	return api.Span{Lo: a.Lo - api.One, Hi: a.Hi - api.One}, api.OK
}

// sine returns 2 t / (1 + t²), rounded out.
func sine(t api.Num) (api.Span, api.Errno) {
	return turned(t, t)
}

// turned returns 2 x / (1 + t²), rounded out, for x and t from -1 to 1.
func turned(x, t api.Num) (api.Span, api.Errno) {
	// With all in units of 2^-32 it is x 2^65 / (2^64 + t²). The divisor has up to 66 bits, which is too much for bits.Div64.
	double := 2 * size(int64(x))
	high, low := bits.Mul64(size(int64(t)), size(int64(t)))
	times := func(n uint64) (uint64, uint64) {
		h, l := bits.Mul64(n, low)
		return h + n*(high+1), l
	}
	n := greatest(34, func(n uint64) bool {
		h, l := times(n)
		return h < double || h == double && l == 0
	})
	h, l := times(n)
	return outward(x < 0, n, h != double || l != 0)
}
