package ascent

import "ullage/api"

// isWindow reports whether a window is valid.
func isWindow(w api.Window) bool {
	return w.Period >= 1 && w.Period <= api.MaxPeriod && w.From >= -api.MaxPeriod && w.From <= api.MaxPeriod && w.Len >= 0 && w.Len <= w.Period
}

// isInstant reports whether t is a time of sets.
func isInstant(t int) bool { return t >= -api.MaxInstant && t <= api.MaxInstant }

// rest returns n modulo m, from 0 to m - 1.
func rest(n, m int) int {
	r := n % m
	if r < 0 {
		r += m
	}
	return r
}

// behind returns how far a time is behind the last beginning of a valid window.
func behind(w api.Window, t int) int {
	return rest(t%w.Period-w.From, w.Period) // t may be any int: t - From may leave 64 bits
}

// Contains reports whether a window contains a time.
func Contains(w api.Window, t int) bool {
	return isWindow(w) && behind(w, t) < w.Len
}

// Slots returns the times of a window between two times.
func Slots(w api.Window, from, to int) ([]api.Slot, api.Errno) {
	if !isWindow(w) || !isInstant(from) || !isInstant(to) || from > to {
		return nil, api.ErrArg
	}
	switch {
	case w.Len == 0 || from == to:
		return nil, api.OK
	case w.Len == w.Period: // its slots would touch each other
		return []api.Slot{{From: from, To: to}}, api.OK
	}
	var l []api.Slot
	for start := from - behind(w, from); start < to; start += w.Period {
		s := api.Slot{From: max(start, from), To: min(start+w.Len, to)}
		if s.From >= s.To {
			continue // the first one may end ahead of from
		}
		if len(l) == api.MaxSlots {
			return nil, api.ErrLong
		}
		l = append(l, s)
	}
	return l, api.OK
}
