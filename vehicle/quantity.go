package vehicle

import (
	"strconv"

	"ullage/api"
	"ullage/span"
)

// dimensionOf returns the exponents of a quantity.
func dimensionOf(q api.Quantity) dimension {
	return dimension{q.Km, q.S, q.T}
}

// CheckQuantity reports whether a quantity is valid.
func CheckQuantity(q api.Quantity) bool {
	if q.Den < 1 || q.Den > api.MaxRatio || q.Num < -api.MaxRatio || q.Num > api.MaxRatio {
		return false
	}
	for _, n := range dimensionOf(q) {
		if n < -api.MaxExponent || n > api.MaxExponent {
			return false
		}
	}
	return divisor(q.Num, q.Den) == 1
}

// size returns the absolute value of a part of a quantity.
func size(n int) int {
	return max(n, -n)
}

// divisor returns the greatest common divisor of an integer and one above 0.
func divisor(n, d int) int {
	n = size(n)
	for n != 0 {
		d, n = n, d%n
	}
	return d
}

// lowest returns n / d in lowest terms, of a dimension.
func lowest(n, d int, is dimension) api.Quantity {
	g := divisor(n, d)
	return api.Quantity{Num: n / g, Den: d / g, Km: is[0], S: is[1], T: is[2]}
}

// sum returns the sum of two parts, and whether it is one.
func sum(x, y int) (int, bool) {
	// The sum of two great parts leaves 64 bits: so they are compared first.
	if y > 0 && x > api.MaxRatio-y || y < 0 && x < -api.MaxRatio-y {
		return 0, false
	}
	return x + y, true
}

// product returns the product of two parts, and whether it is one.
func product(x, y int) (int, bool) {
	if y != 0 && size(x) > api.MaxRatio/size(y) {
		return 0, false
	}
	return x * y, true
}

// Plus returns the sum of two quantities.
func Plus(a, b api.Quantity) (api.Quantity, api.Errno) {
	if !CheckQuantity(a) || !CheckQuantity(b) {
		return api.Quantity{}, api.ErrArg
	}
	if dimensionOf(a) != dimensionOf(b) {
		return api.Quantity{}, api.ErrUnit
	}
	g := divisor(a.Den, b.Den)
	x, xFits := product(a.Num, b.Den/g)
	y, yFits := product(b.Num, a.Den/g)
	den, denFits := product(a.Den/g, b.Den)
	if !xFits || !yFits || !denFits {
		return api.Quantity{}, api.ErrRange
	}
	num, numFits := sum(x, y)
	if !numFits {
		return api.Quantity{}, api.ErrRange
	}
	return lowest(num, den, dimensionOf(a)), api.OK
}

// Minus returns the difference of two quantities.
func Minus(a, b api.Quantity) (api.Quantity, api.Errno) {
	return Plus(a, negative(b))
}

// negative returns a quantity with the other sign; one that is not valid does not become valid.
func negative(q api.Quantity) api.Quantity {
	q.Num = -q.Num
	return q
}

// Times returns the product of two quantities.
func Times(a, b api.Quantity) (api.Quantity, api.Errno) {
	if !CheckQuantity(a) || !CheckQuantity(b) {
		return api.Quantity{}, api.ErrArg
	}
	// What cancels out is taken away first: what is left is in lowest terms.
	first, second := divisor(a.Num, b.Den), divisor(b.Num, a.Den)
	num, numFits := product(a.Num/first, b.Num/second)
	den, denFits := product(a.Den/second, b.Den/first)
	q := api.Quantity{Num: num, Den: den, Km: a.Km + b.Km, S: a.S + b.S, T: a.T + b.T}
	if !numFits || !denFits || !CheckQuantity(q) {
		return api.Quantity{}, api.ErrRange
	}
	return q, api.OK
}

// Over returns the quotient of two quantities.
func Over(a, b api.Quantity) (api.Quantity, api.Errno) {
	if !CheckQuantity(a) || !CheckQuantity(b) || b.Num == 0 {
		return api.Quantity{}, api.ErrArg
	}
	inverse := api.Quantity{Num: b.Den, Den: size(b.Num), Km: -b.Km, S: -b.S, T: -b.T}
	if b.Num < 0 {
		inverse = negative(inverse)
	}
	return Times(a, inverse)
}

// Lower returns the greatest number that is not above a quantity.
func Lower(q api.Quantity) (api.Num, api.Errno) {
	a, e := around(q)
	return a.Lo, e
}

// Upper returns the least number that is not below a quantity.
func Upper(q api.Quantity) (api.Num, api.Errno) {
	a, e := around(q)
	return a.Hi, e
}

// around returns the lower and the upper number of a quantity. It has both or none: with parts up to MaxRatio nothing is nearer to 2^31 than 2^-31, if it is not 2^31.
func around(q api.Quantity) (api.Span, api.Errno) {
	if !CheckQuantity(q) {
		return api.Span{}, api.ErrArg
	}
	return span.Ratio(q.Num, q.Den)
}

// Show writes a quantity.
func Show(q api.Quantity) string {
	if !CheckQuantity(q) {
		return ""
	}
	out := strconv.Itoa(q.Num)
	if q.Den != 1 {
		out += "/" + strconv.Itoa(q.Den)
	}
	return out + power("km", q.Km) + power("s", q.S) + power("t", q.T)
}

// power writes a unit with an exponent, and nothing for the exponent 0.
func power(unit string, exponent int) string {
	switch exponent {
	case 0:
		return ""
	case 1:
		return " " + unit
	}
	return " " + unit + "^" + strconv.Itoa(exponent)
}
