// Package span is layer 1: numbers with 32 bits behind the point, and spans of real numbers that are always rounded outwards. See shared/doc/01-span.md.
package span

import "ullage/api"

// noNumber is the one int64 that stands for no number: its negative would leave 64 bits.
const noNumber = -api.MostNum - 1

// Check returns ErrArg unless a is valid.
func Check(a api.Span) api.Errno {
	if a.Lo == noNumber || a.Lo > a.Hi {
		return api.ErrArg
	}
	return api.OK
}

// invalid reports whether one of some spans is not valid.
func invalid(l ...api.Span) bool {
	for _, a := range l {
		if Check(a) != api.OK {
			return true
		}
	}
	return false
}

// Point returns the point n.
func Point(n api.Num) (api.Span, api.Errno) {
	if n == noNumber {
		return api.Span{}, api.ErrArg
	}
	return api.Span{Lo: n, Hi: n}, api.OK
}

// Of returns the point of an integer.
func Of(n int) (api.Span, api.Errno) {
	return Ratio(n, 1)
}

// Ratio returns the quotient of two integers, rounded out.
func Ratio(a, b int) (api.Span, api.Errno) {
	if b == 0 {
		return api.Span{}, api.ErrZero
	}
	return share(int64(a), int64(api.One), int64(b))
}
