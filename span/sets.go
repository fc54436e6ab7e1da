package span

import "ullage/api"

// Hull returns the least span that contains both.
func Hull(a, b api.Span) (api.Span, api.Errno) {
	if invalid(a, b) {
		return api.Span{}, api.ErrArg
	}
	return both(a, b), api.OK
}

// Meet returns all numbers that are in both.
func Meet(a, b api.Span) (api.Span, api.Errno) {
	if invalid(a, b) {
		return api.Span{}, api.ErrArg
	}
	m := api.Span{Lo: max(a.Lo, b.Lo), Hi: min(a.Hi, b.Hi)}
	if m.Lo > m.Hi {
		return api.Span{}, api.ErrNone
	}
	return m, api.OK
}

// Grow returns a span that is wider on both sides.
func Grow(a api.Span, by api.Num) (api.Span, api.Errno) {
	if invalid(a) || by < 0 {
		return api.Span{}, api.ErrArg
	}
	return Add(a, api.Span{Lo: -by, Hi: by})
}

// Split returns both halves.
func Split(a api.Span) (low, high api.Span, e api.Errno) {
	m, e := Mid(a)
	if e != api.OK {
		return api.Span{}, api.Span{}, e
	}
	return api.Span{Lo: a.Lo, Hi: m}, api.Span{Lo: m, Hi: a.Hi}, api.OK
}

// Mid returns the greatest number that is not above the middle.
func Mid(a api.Span) (api.Num, api.Errno) {
	if invalid(a) {
		return 0, api.ErrArg
	}
	// The sum may leave 64 bits: so the bits that both have are added to half of those that one has.
	return a.Lo&a.Hi + (a.Lo^a.Hi)>>1, api.OK
}

// Wide returns the width.
func Wide(a api.Span) (api.Num, api.Errno) {
	if invalid(a) {
		return 0, api.ErrArg
	}
	w, fits := plus(a.Hi, -a.Lo)
	if !fits {
		return 0, api.ErrRange
	}
	return w, api.OK
}

// In reports whether a span contains a number.
func In(a api.Span, n api.Num) bool {
	return !invalid(a) && a.Lo <= n && n <= a.Hi
}

// Within reports whether b contains all numbers of a.
func Within(a, b api.Span) bool {
	return !invalid(a, b) && b.Lo <= a.Lo && a.Hi <= b.Hi
}

// Sign returns the sign of all numbers, if they have the same one.
func Sign(a api.Span) int {
	return Order(a, api.Span{})
}

// Order returns -1 if all numbers of a are less than all of b, 1 if they are greater, otherwise 0.
func Order(a, b api.Span) int {
	switch {
	case invalid(a, b):
		return 0
	case a.Hi < b.Lo:
		return -1
	case a.Lo > b.Hi:
		return 1
	}
	return 0
}
