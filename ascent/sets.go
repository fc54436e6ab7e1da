package ascent

import (
	"cmp"

	"ullage/api"
)

// isSet reports whether a set of times is valid.
func isSet(l []api.Slot) bool {
	if len(l) > api.MaxSlots {
		return false
	}
	last := -api.MaxInstant - 1
	for _, s := range l {
		if s.From <= last || s.To <= s.From || s.To > api.MaxInstant {
			return false
		}
		last = s.To
	}
	return true
}

// Both returns the times in both sets.
func Both(a, b []api.Slot) ([]api.Slot, api.Errno) {
	return merged(a, b, func(inA, inB bool) bool { return inA && inB })
}

// Either returns the times in one of two sets at least.
func Either(a, b []api.Slot) ([]api.Slot, api.Errno) {
	return merged(a, b, func(inA, inB bool) bool { return inA || inB })
}

// Without returns the times in a and not in b.
func Without(a, b []api.Slot) ([]api.Slot, api.Errno) {
	return merged(a, b, func(inA, inB bool) bool { return inA && !inB })
}

// Total returns how many times a set contains.
func Total(l []api.Slot) (int, api.Errno) {
	if !isSet(l) {
		return 0, api.ErrArg
	}
	n := 0
	for _, s := range l {
		n += s.To - s.From
	}
	return n, api.OK
}

// merged returns the set of the times that keep wants.
func merged(a, b []api.Slot, keep func(inA, inB bool) bool) ([]api.Slot, api.Errno) {
	if !isSet(a) || !isSet(b) {
		return nil, api.ErrArg
	}
	ends := merge(edges(a), edges(b), keep)
	if len(ends) > 2*api.MaxSlots {
		return nil, api.ErrLong
	}
	var l []api.Slot
	for i := 0; i < len(ends); i += 2 {
		l = append(l, api.Slot{From: ends[i], To: ends[i+1]})
	}
	return l, api.OK
}

// edges returns the times at which a valid set begins and ends, by turns. They rise.
func edges(l []api.Slot) []int {
	var ends []int
	for _, s := range l {
		ends = append(ends, s.From, s.To)
	}
	return ends
}

// merge merges two sets, given by their edges, to one, given by its edges. What is in none of the two must not be kept.
func merge[T cmp.Ordered](a, b []T, keep func(inA, inB bool) bool) []T {
	var ends []T
	i, j := 0, 0
	for i < len(a) || j < len(b) {
		at := next(a[i:], b[j:])
		if i < len(a) && a[i] == at {
			i++
		}
		if j < len(b) && b[j] == at {
			j++
		}
		// Behind an odd number of edges one is inside.
		if keep(i%2 == 1, j%2 == 1) != (len(ends)%2 == 1) {
			ends = append(ends, at)
		}
	}
	return ends
}

// next returns the least one of the first elements of two lists, one of which may be empty.
func next[T cmp.Ordered](a, b []T) T {
	if len(a) == 0 || len(b) > 0 && b[0] < a[0] {
		return b[0]
	}
	return a[0]
}
