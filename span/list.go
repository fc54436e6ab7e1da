package span

import (
	"iter"
	"slices"

	"ullage/api"
)

// fold goes through some values, from start on, by step. The first error ends it.
func fold[T, R any](l iter.Seq[T], start R, step func(R, T) (R, api.Errno)) (R, api.Errno) {
	var none R
	r := start
	for x := range l {
		var e api.Errno
		if r, e = step(r, x); e != api.OK {
			return none, e
		}
	}
	return r, api.OK
}

// pairs goes through two lists of the same length at once.
func pairs(a, b []api.Span) iter.Seq[[2]api.Span] {
	return func(yield func([2]api.Span) bool) {
		for i := range a {
			if !yield([2]api.Span{a[i], b[i]}) {
				return
			}
		}
	}
}

// checkLists returns ErrLong if one of some lists is too long, and ErrArg if one of their elements is not valid.
func checkLists(l ...[]api.Span) api.Errno {
	for _, a := range l {
		if len(a) > api.MaxTerms {
			return api.ErrLong
		}
	}
	for _, a := range l {
		if invalid(a...) {
			return api.ErrArg
		}
	}
	return api.OK
}

// Sum returns the sum of all.
func Sum(l []api.Span) (api.Span, api.Errno) {
	if e := checkLists(l); e != api.OK {
		return api.Span{}, e
	}
	return fold(slices.Values(l), api.Span{}, Add)
}

// Dot returns the sum of the products.
func Dot(a, b []api.Span) (api.Span, api.Errno) {
	if e := checkLists(a, b); e != api.OK {
		return api.Span{}, e
	}
	if len(a) != len(b) {
		return api.Span{}, api.ErrArg
	}
	return fold(pairs(a, b), api.Span{}, func(sum api.Span, p [2]api.Span) (api.Span, api.Errno) {
		term, e := Mul(p[0], p[1])
		if e != api.OK {
			return api.Span{}, e
		}
		return Add(sum, term)
	})
}

// Norm returns the root of the sum of the squares.
func Norm(l []api.Span) (api.Span, api.Errno) {
	if e := checkLists(l); e != api.OK {
		return api.Span{}, e
	}
	sum, e := fold(slices.Values(l), api.Span{}, func(sum, x api.Span) (api.Span, api.Errno) {
		term, e := Square(x)
		if e != api.OK {
			return api.Span{}, e
		}
		return Add(sum, term)
	})
	if e != api.OK {
		return api.Span{}, e
	}
	return Root(sum)
}
