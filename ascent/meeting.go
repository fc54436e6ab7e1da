package ascent

import "ullage/api"

// Often returns how many times of a common period are in both windows.
func Often(a, b api.Window) (int, api.Errno) {
	if !isWindow(a) || !isWindow(b) {
		return 0, api.ErrArg
	}
	// A place in a slot of a and one in a slot of b meet once in a common period if they are the same modulo the greatest common divisor of both, and otherwise never. So these pairs of places are counted: each slot is some whole rounds of the divisor, and an arc of what is left.
	round := divisor(a.Period, b.Period)
	roundsA, arcA := a.Len/round, a.Len%round
	roundsB, arcB := b.Len/round, b.Len%round
	ahead := rest(b.From-a.From, round)
	both := common(arcA, ahead, ahead+arcB) + common(arcA, ahead-round, ahead-round+arcB)
	return roundsA*round*roundsB + roundsA*arcB + arcA*roundsB + both, api.OK
}

// divisor returns the greatest common divisor of two numbers.
func divisor(a, b int) int {
	for b != 0 {
		a, b = b, a%b
	}
	return a
}

// common returns how many numbers from 0 to below n are from low to below high.
func common(n, low, high int) int {
	return max(0, min(n, high)-max(0, low))
}

// Next returns the first time from t on that is in both windows.
func Next(a, b api.Window, t int) (int, api.Errno) {
	n, e := Often(a, b)
	if e != api.OK || !isInstant(t) {
		return 0, api.ErrArg
	}
	if n == 0 {
		return 0, api.ErrNone
	}
	if Contains(a, t) && Contains(b, t) {
		return t, api.OK
	}
	// They do not meet at t, so one of them begins where they meet next.
	ofA, okA := opening(a, b, t)
	ofB, okB := opening(b, a, t)
	switch {
	case !okA:
		return ofB, api.OK
	case !okB:
		return ofA, api.OK
	}
	return min(ofA, ofB), api.OK
}

// opening returns the first time from t on at which w begins, and which is in a window that is not empty; there may be none.
func opening(w, in api.Window, t int) (int, bool) {
	start := t + rest(-behind(w, t), w.Period)
	place := behind(in, start)
	if place < in.Len {
		return start, true
	}
	low := in.Period - place
	n, ok := hit(w.Period, in.Period, low, low+in.Len-1)
	if !ok {
		return 0, false
	}
	return start + n*w.Period, true
}

// hit returns the least n for which n step, modulo round, is from low to high (0 < low <= high < round); there may be none.
func hit(step, round, low, high int) (int, bool) {
	step %= round
	if step == 0 {
		return 0, false
	}
	if n := roundUp(low, step); n*step <= high {
		return n, true
	}
	// The first way around has no hit. The least number of rounds behind which there is one is a question of the same kind: with how many rounds there is a multiple of step from low to high behind them.
	rounds, ok := hit(round, step, rest(-high, step), rest(-low, step))
	if !ok {
		return 0, false
	}
	return roundUp(low+rounds*round, step), true
}

// roundUp returns a / b, rounded up, for an a that is not negative and a b above 0.
func roundUp(a, b int) int { return (a + b - 1) / b }
