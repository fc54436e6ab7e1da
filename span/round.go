package span

import (
	"math/bits"

	"ullage/api"
)

// size returns the absolute value of any int64, also of the least one.
func size(n int64) uint64 {
	if n < 0 {
		return -uint64(n)
	}
	return uint64(n)
}

// plus returns x + y, and whether that is a valid number.
func plus(x, y api.Num) (api.Num, bool) {
	n := x + y
	return n, n != noNumber && (n < x) == (y < 0)
}

// outward returns the span of a number whose size is n, or, if there is a rest, more than n and less than n + 1.
func outward(negative bool, n uint64, rest bool) (api.Span, api.Errno) {
	const most = uint64(api.MostNum)
	if n > most || n == most && rest {
		return api.Span{}, api.ErrRange
	}
	low, high := api.Num(n), api.Num(n)
	if rest {
		high++
	}
	if negative {
		return api.Span{Lo: -high, Hi: -low}, api.OK
	}
	return api.Span{Lo: low, Hi: high}, api.OK
}

// share returns x y / d, rounded out to integers; d must not be 0.
func share(x, y, d int64) (api.Span, api.Errno) {
	high, low := bits.Mul64(size(x), size(y))
	by := size(d)
	if high >= by {
		return api.Span{}, api.ErrRange // the quotient has more than 64 bits
	}
	n, rest := bits.Div64(high, low, by)
	return outward((x < 0) != (y < 0) != (d < 0), n, rest != 0)
}

// product returns x y, rounded out.
func product(x, y api.Num) (api.Span, api.Errno) {
	return share(int64(x), int64(y), int64(api.One))
}

// greatest returns the greatest number of so many bits that is small enough; 0 has to be, and all numbers below one that is.
func greatest(width int, small func(n uint64) bool) uint64 {
	var n uint64
	for bit := uint64(1) << (width - 1); bit > 0; bit >>= 1 {
		if small(n | bit) {
			n |= bit
		}
	}
	return n
}

// root returns the square root of a number that is not negative, rounded out.
func root(x api.Num) (api.Span, api.Errno) {
	// In units of 2^-32 this is the root of x 2^32, of 95 bits.
	wantHigh, wantLow := uint64(x)>>32, uint64(x)<<32
	n := greatest(48, func(n uint64) bool {
		high, low := bits.Mul64(n, n)
		return high < wantHigh || high == wantHigh && low <= wantLow
	})
	high, low := bits.Mul64(n, n)
	return outward(false, n, high != wantHigh || low != wantLow)
}

// ends returns the least span that contains what f has at both ends of a. These are the bounds of an f that only rises, or only falls, on a; and if they do not fit, neither does one of the ends, rounded out.
func ends(a api.Span, f func(x api.Num) (api.Span, api.Errno)) (api.Span, api.Errno) {
	first, e := f(a.Lo)
	if e != api.OK || a.Lo == a.Hi {
		return first, e
	}
	last, e := f(a.Hi)
	if e != api.OK {
		return api.Span{}, e
	}
	return both(first, last), api.OK
}

// both returns the least span that contains two valid ones.
func both(a, b api.Span) api.Span {
	return api.Span{Lo: min(a.Lo, b.Lo), Hi: max(a.Hi, b.Hi)}
}
