package span

import "ullage/api"

// Add returns all sums.
func Add(a, b api.Span) (api.Span, api.Errno) {
	if invalid(a, b) {
		return api.Span{}, api.ErrArg
	}
	low, lowFits := plus(a.Lo, b.Lo)
	high, highFits := plus(a.Hi, b.Hi)
	if !lowFits || !highFits {
		return api.Span{}, api.ErrRange
	}
	return api.Span{Lo: low, Hi: high}, api.OK
}

// Sub returns all differences.
func Sub(a, b api.Span) (api.Span, api.Errno) {
	if invalid(a, b) {
		return api.Span{}, api.ErrArg
	}
	return Add(a, api.Span{Lo: -b.Hi, Hi: -b.Lo})
}

// Neg returns all negative numbers.
func Neg(a api.Span) (api.Span, api.Errno) {
	if invalid(a) {
		return api.Span{}, api.ErrArg
	}
	return api.Span{Lo: -a.Hi, Hi: -a.Lo}, api.OK
}

// Scale returns all products with an integer.
func Scale(a api.Span, n int) (api.Span, api.Errno) {
	if invalid(a) {
		return api.Span{}, api.ErrArg
	}
	return ends(a, func(x api.Num) (api.Span, api.Errno) { return share(int64(x), int64(n), 1) })
}

// Mul returns all products, rounded out.
func Mul(a, b api.Span) (api.Span, api.Errno) {
	if invalid(a, b) {
		return api.Span{}, api.ErrArg
	}
	return ends(a, func(x api.Num) (api.Span, api.Errno) {
		return ends(b, func(y api.Num) (api.Span, api.Errno) { return product(x, y) })
	})
}

// Div returns all quotients, rounded out.
func Div(a, b api.Span) (api.Span, api.Errno) {
	if invalid(a, b) {
		return api.Span{}, api.ErrArg
	}
	if In(b, 0) {
		return api.Span{}, api.ErrZero
	}
	return ends(a, func(x api.Num) (api.Span, api.Errno) {
		return ends(b, func(y api.Num) (api.Span, api.Errno) {
			return share(int64(x), int64(api.One), int64(y))
		})
	})
}

// Square returns all squares, rounded out.
func Square(a api.Span) (api.Span, api.Errno) {
	sizes, e := Abs(a)
	if e != api.OK {
		return api.Span{}, e
	}
	return ends(sizes, func(x api.Num) (api.Span, api.Errno) { return product(x, x) })
}

// Root returns the square roots of all numbers of a that are not negative, rounded out.
func Root(a api.Span) (api.Span, api.Errno) {
	if invalid(a) {
		return api.Span{}, api.ErrArg
	}
	if a.Hi < 0 {
		return api.Span{}, api.ErrRange
	}
	return ends(api.Span{Lo: max(a.Lo, 0), Hi: a.Hi}, root)
}

// Abs returns all absolute values.
func Abs(a api.Span) (api.Span, api.Errno) {
	switch {
	case invalid(a):
		return api.Span{}, api.ErrArg
	case a.Lo >= 0:
		return a, api.OK
	case a.Hi <= 0:
		return Neg(a)
	}
	return api.Span{Lo: 0, Hi: max(-a.Lo, a.Hi)}, api.OK
}

// Most returns the greater ones of all pairs.
func Most(a, b api.Span) (api.Span, api.Errno) {
	if invalid(a, b) {
		return api.Span{}, api.ErrArg
	}
	return api.Span{Lo: max(a.Lo, b.Lo), Hi: max(a.Hi, b.Hi)}, api.OK
}

// Least returns the lesser ones of all pairs.
func Least(a, b api.Span) (api.Span, api.Errno) {
	if invalid(a, b) {
		return api.Span{}, api.ErrArg
	}
	return api.Span{Lo: min(a.Lo, b.Lo), Hi: min(a.Hi, b.Hi)}, api.OK
}
