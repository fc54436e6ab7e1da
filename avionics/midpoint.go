package avionics

import "ullage/api"

// mostReadings is how many readings a midpoint is made of, at most.
const mostReadings = 100

// Midpoint returns the midpoint of readings.
func Midpoint(l []int, f int) (int, api.Errno) {
	if !isFrom(f, 0, mostNumber) || !isFrom(len(l), 2*f+1, mostReadings) {
		return 0, api.ErrRange
	}
	for _, n := range l {
		if !isReading(n) {
			return 0, api.ErrRange
		}
	}
	s := sorted(l)
	// A shift rounds down also below 0, where a division would round up.
	return (s[f] + s[len(s)-1-f]) >> 1, api.OK
}
