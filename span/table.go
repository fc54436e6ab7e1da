package span

import "ullage/api"

// CheckTable returns ErrArg unless a table is valid.
func CheckTable(l []api.Point) api.Errno {
	if len(l) == 0 || len(l) > api.MaxTable {
		return api.ErrArg
	}
	parts := api.Span{Lo: -api.MaxPart, Hi: api.MaxPart}
	for i, p := range l {
		if !In(parts, p.At) || !Within(p.Value, parts) {
			return api.ErrArg
		}
		if i > 0 && p.At <= l[i-1].At {
			return api.ErrArg
		}
	}
	return api.OK
}

// Look returns what the lines of a table have at the places of a span, rounded out.
func Look(l []api.Point, x api.Span) (api.Span, api.Errno) {
	if CheckTable(l) != api.OK || invalid(x) {
		return api.Span{}, api.ErrArg
	}
	// Lines are straight between the points: nothing is below or above what they have at these and at the ends.
	out := both(lines(l, x.Lo), lines(l, x.Hi))
	for _, p := range l {
		if In(x, p.At) {
			out = both(out, p.Value)
		}
	}
	return out, api.OK
}

// lines returns the span from the lower line of a table to the upper one, at a place, rounded out.
func lines(l []api.Point, x api.Num) api.Span {
	next := 0
	for next < len(l) && l[next].At < x {
		next++
	}
	if next == len(l) {
		return l[next-1].Value
	}
	if next == 0 {
		return l[0].Value
	}
	p, q := l[next-1], l[next]
	along := func(from, to api.Num) api.Span {
		// A part of the way fits, and so does its sum with from: both are between numbers that do.
		way, _ := share(int64(to-from), int64(x-p.At), int64(q.At-p.At))
		return api.Span{Lo: from + way.Lo, Hi: from + way.Hi}
	}
	return api.Span{Lo: along(p.Value.Lo, q.Value.Lo).Lo, Hi: along(p.Value.Hi, q.Value.Hi).Hi}
}
