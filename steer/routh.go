package steer

import (
	"iter"
	"slices"

	"ullage/api"
	"ullage/span"
)

// isPolynomial reports whether a polynomial is valid.
func isPolynomial(p []api.Span) bool {
	degree := len(p) - 1
	return degree >= 1 && degree <= api.MaxDegree && valid(p...) && isPositive(p[0])
}

// row is a row of Routh's array; elements that it does not have are the point 0.
type row [api.MaxDegree/2 + 1]api.Span

// every returns the row of every second coefficient, from one on.
func every(p []api.Span, from int) row {
	var r row
	for i := from; i < len(p); i += 2 {
		r[i/2] = p[i]
	}
	return r
}

// under returns the row under two others.
func under(upper, lower row) (row, api.Errno) {
	var f formula
	var r row
	// The last element of a row is left at 0: only row 0 can have it.
	for j := range len(r) - 1 {
		across := f.sub(f.mul(lower[0], upper[j+1]), f.mul(upper[0], lower[j+1]))
		r[j] = f.div(across, lower[0])
	}
	return r, f.e
}

// rows goes through the rows of Routh's array of a valid polynomial, up to one that has an error, and no further than to one whose first element is not surely above 0.
func rows(p []api.Span) iter.Seq[row] {
	return func(yield func(row) bool) {
		made := []row{every(p, 0), every(p, 1)}
		for k := range p {
			if k >= len(made) {
				r, e := under(made[k-2], made[k-1])
				if e != api.OK {
					return
				}
				made = append(made, r)
			}
			if !yield(made[k]) || !isPositive(made[k][0]) {
				return
			}
		}
	}
}

// routh returns what Routh's array of a valid polynomial shows.
func routh(p []api.Span) int {
	count, sign := 0, plus
	for r := range rows(p) {
		count++
		sign = together(sign, span.Sign(r[0]))
	}
	if count < len(p) {
		sign = min(sign, neither) // rows that are not known may have any sign
	}
	return sign
}

// Routh returns whether all polynomials are stable, or none is.
func Routh(p []api.Span) (int, api.Errno) {
	if !isPolynomial(p) {
		return 0, api.ErrArg
	}
	return routh(p), api.OK
}

// corners returns the four corners of a valid polynomial.
func corners(p []api.Span) [4][]api.Span {
	const low, high = false, true
	patterns := [4][4]bool{
		{low, low, high, high},
		{high, high, low, low},
		{low, high, high, low},
		{high, low, low, high},
	}
	var out [4][]api.Span
	for i, pattern := range patterns {
		for j, a := range p {
			power := len(p) - 1 - j
			if pattern[power%4] == high {
				out[i] = append(out[i], point(a.Hi))
			} else {
				out[i] = append(out[i], point(a.Lo))
			}
		}
	}
	return out
}

// Corners returns the four corners of a polynomial.
func Corners(p []api.Span) ([4][]api.Span, api.Errno) {
	if !isPolynomial(p) {
		return [4][]api.Span{}, api.ErrArg
	}
	return corners(p), api.OK
}

// robust returns what the corners of a valid polynomial show.
func robust(p []api.Span) int {
	sign := plus
	for _, c := range corners(p) {
		sign = together(sign, routh(c))
	}
	return sign
}

// Robust returns whether all polynomials are stable, or one is not.
func Robust(p []api.Span) (int, api.Errno) {
	if !isPolynomial(p) {
		return 0, api.ErrArg
	}
	return robust(p), api.OK
}

// Margin returns how far the gain of a loop may be from 1.
func Margin(p, q []api.Span, most int) (int, api.Errno) {
	if !isPolynomial(p) || !isPolynomial(q) || most < 0 || most > api.MaxEdge || len(q) > len(p) {
		return 0, api.ErrArg
	}
	n := -1
	for n < most && holds(p, q, n+1) {
		n++
	}
	return n, api.OK
}

// holds reports whether a loop is stable for all gains that are up to m 64ths away from 1.
func holds(p, q []api.Span, m int) bool {
	away := api.Num(m) * api.One / api.MaxEdge
	loop, e := closed(p, q, api.Span{Lo: api.One - away, Hi: api.One + away})
	return e == api.OK && isPolynomial(loop) && robust(loop) == plus
}

// closed returns the polynomial p + k q; q must not be longer than p.
func closed(p, q []api.Span, k api.Span) ([]api.Span, api.Errno) {
	var f formula
	sum := slices.Clone(p)
	same := sum[len(p)-len(q):] // those of the powers that q has, too
	for i, a := range q {
		same[i] = f.add(same[i], f.mul(k, a))
	}
	return sum, f.e
}
