package steer

import (
	"math/bits"

	"ullage/api"
)

// wide is an integer of 128 bits, in two's complement.
type wide struct{ high, low uint64 }

// times returns the exact product of two numbers, in units of 2^-64.
func times(a, b api.Num) wide {
	high, low := bits.Mul64(uint64(a), uint64(b))
	// Without its sign a negative number is 2^64 too great.
	if a < 0 {
		high -= uint64(b)
	}
	if b < 0 {
		high -= uint64(a)
	}
	return wide{high, low}
}

// plus returns the sum of two integers.
func (w wide) plus(v wide) wide {
	low, carry := bits.Add64(w.low, v.low, 0)
	high, _ := bits.Add64(w.high, v.high, carry)
	return wide{high, low}
}

// down returns a value in units of 2^-64, rounded down to a number.
func (w wide) down() (api.Num, api.Errno) {
	n := api.Num(w.high<<32 | w.low>>32)
	above := int64(w.high) >> 32
	if above != int64(n>>63) || !isNumber(n) {
		return 0, api.ErrRange
	}
	return n, api.OK
}
