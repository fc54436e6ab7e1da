package steer

import (
	"cmp"
	"math/bits"

	"ullage/api"
	"ullage/span"
)

// torque is a torque about the three axes.
type torque [3]int

// mostWanted is the greatest number of a torque that is wanted, in size.
const mostWanted = 1 << 24

// isWithin reports whether all numbers of a torque are from -most to most.
func (t torque) isWithin(most int) bool {
	for _, n := range t {
		if n < -most || n > most {
			return false
		}
	}
	return true
}

// isMask reports whether a mask has only bits of so many things.
func isMask(mask, count int) bool { return mask>>count == 0 }

// left returns those of a list that have not failed.
func left[T any](l []T, failed int) []T {
	var out []T
	for i, x := range l {
		if failed>>i&1 == 0 {
			out = append(out, x)
		}
	}
	return out
}

// checkJets returns ErrLong or ErrArg unless jets, and a mask of them, are valid.
func checkJets(l []api.Jet, failed int) api.Errno {
	if len(l) > api.MaxJets {
		return api.ErrLong
	}
	for _, j := range l {
		if !torque(j.Torque).isWithin(api.MaxTorque) {
			return api.ErrArg
		}
	}
	if !isMask(failed, len(l)) {
		return api.ErrArg
	}
	return api.OK
}

// blend is jets that are on, and what is left over of the torque that is wanted.
type blend struct {
	on   int
	rest torque
}

// with returns a blend with one jet more.
func (b blend) with(jet int, t torque) blend {
	b.on |= 1 << jet
	for i, n := range t {
		b.rest[i] -= n
	}
	return b
}

// size returns the sum of the squares of what is left over.
func (b blend) size() int {
	sum := 0
	for _, n := range b.rest {
		sum += n * n
	}
	return sum
}

// jets returns how many jets are on.
func (b blend) jets() int { return bits.OnesCount(uint(b.on)) }

// isBetter reports whether a blend is to be taken in place of another one.
func (b blend) isBetter(than blend) bool {
	return cmp.Or(cmp.Compare(b.size(), than.size()), cmp.Compare(b.jets(), than.jets()), cmp.Compare(b.on, than.on)) < 0
}

// Mix returns the jets that make a torque best.
func Mix(l []api.Jet, failed int, want [3]int) (on int, rest [3]int, e api.Errno) {
	if e := checkJets(l, failed); e != api.OK {
		return 0, torque{}, e
	}
	if !torque(want).isWithin(mostWanted) {
		return 0, torque{}, api.ErrArg
	}
	best := blend{rest: want}
	var try func(jet int, b blend)
	try = func(jet int, b blend) {
		if jet == len(l) {
			if b.isBetter(best) {
				best = b
			}
			return
		}
		try(jet+1, b)
		if failed>>jet&1 == 0 {
			try(jet+1, b.with(jet, l[jet].Torque))
		}
	}
	try(0, best)
	return best.on, best.rest, api.OK
}

// Spans reports whether the jets that have not failed span the space.
func Spans(l []api.Jet, failed int) (bool, api.Errno) {
	if e := checkJets(l, failed); e != api.OK {
		return false, e
	}
	return areSpanning(left(l, failed)), api.OK
}

// Safe reports whether jets span the space without any one of them.
func Safe(l []api.Jet) (bool, api.Errno) {
	if e := checkJets(l, 0); e != api.OK {
		return false, e
	}
	for i := range l {
		if !areSpanning(left(l, 1<<i)) {
			return false, api.OK
		}
	}
	return len(l) > 0, api.OK
}

// areSpanning reports whether jets span the space.
func areSpanning(l []api.Jet) bool {
	// If jets do not span the space, there are directions in which none of them has a torque. One of these is at right angles to two torques that are not parallel, unless all torques are. So it is enough to look in such directions, both ways.
	are := false
	for i, a := range l {
		for _, b := range l[:i] {
			normal := across(a.Torque, b.Torque)
			if normal == (torque{}) {
				continue
			}
			if !areOnBothSides(l, normal) {
				return false
			}
			are = true
		}
	}
	return are
}

// across returns the vector product of two torques.
func across(a, b torque) torque {
	return torque{a[1]*b[2] - a[2]*b[1], a[2]*b[0] - a[0]*b[2], a[0]*b[1] - a[1]*b[0]}
}

// areOnBothSides reports whether a jet has a torque in a direction, and another one against it.
func areOnBothSides(l []api.Jet, direction torque) bool {
	ahead, astern := false, false
	for _, j := range l {
		// A product is at most 2^61 in size: three of them fit.
		along := 0
		for i, n := range j.Torque {
			along += n * direction[i]
		}
		ahead = ahead || along > 0
		astern = astern || along < 0
	}
	return ahead && astern
}

// Swivel returns the angle of gimbals, and what is short.
func Swivel(thrust []api.Span, failed int, arm api.Span, limit, want api.Num) (angle, short api.Span, e api.Errno) {
	if len(thrust) > api.MaxJets {
		return api.Span{}, api.Span{}, api.ErrLong
	}
	if !notNegative(thrust...) || !isPositive(arm) || limit < 0 || !isNumber(want) || !isMask(failed, len(thrust)) {
		return api.Span{}, api.Span{}, api.ErrArg
	}
	sum, e := span.Sum(left(thrust, failed))
	if e != api.OK {
		return api.Span{}, api.Span{}, e
	}
	var f formula
	wanted := point(want)
	angle = f.div(f.div(wanted, sum), arm) // ErrZero, if the sum contains 0
	angle = f.most(point(-limit), f.least(point(limit), angle))
	short = f.sub(wanted, f.mul(f.mul(sum, arm), angle))
	return f.results(angle, short)
}
