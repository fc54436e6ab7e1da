package steer

import (
	"ullage/api"
	"ullage/span"
)

// Law returns an acceleration that brings a height and a speed to others.
func Law(h, v, to, at api.Span, time api.Num) (c0, c1 api.Span, e api.Errno) {
	if !valid(h, v, to, at) || time <= 0 {
		return api.Span{}, api.Span{}, api.ErrArg
	}
	var f formula
	sub, div, scale := f.sub, f.div, f.scale
	t := point(time)
	d := sub(sub(to, h), f.mul(v, t))
	s := sub(at, v)
	y := div(div(d, t), t)
	z := div(s, t)
	c0 = sub(scale(y, 6), scale(z, 2))
	c1 = sub(scale(div(z, t), 6), scale(div(y, t), 12))
	return f.results(c0, c1)
}

// Due returns the height and the speed after a time.
func Due(h, v, c0, c1 api.Span, time api.Num) (place, speed api.Span, e api.Errno) {
	if !valid(h, v, c0, c1) || time <= 0 {
		return api.Span{}, api.Span{}, api.ErrArg
	}
	var f formula
	add, mul, div := f.add, f.mul, f.div
	t := point(time)
	s := mul(t, t)
	place = add(add(add(h, mul(v, t)), div(mul(c0, s), whole(2))), div(mul(mul(c1, s), t), whole(6)))
	speed = add(add(v, mul(c0, t)), div(mul(c1, s), whole(2)))
	return f.results(place, speed)
}

// climb is what a speed depends on, but for the direction of the push.
type climb struct {
	v, push, pull api.Span
	time          api.Num
}

// isValid reports whether a climb is valid.
func (c climb) isValid() bool {
	return valid(c.v, c.pull) && notNegative(c.push) && c.time >= 0
}

// lift returns the speed that the directions t lead to.
func (c climb) lift(t api.Span) (api.Span, api.Errno) {
	_, s, e := span.Turn(t)
	if e != api.OK {
		return api.Span{}, e
	}
	var f formula
	gain := f.mul(f.sub(f.mul(c.push, s), c.pull), point(c.time))
	return f.result(f.add(c.v, gain))
}

// Lift returns the speed that a direction leads to.
func Lift(v, push, pull api.Span, time api.Num, t api.Span) (api.Span, api.Errno) {
	c := climb{v, push, pull, time}
	if !c.isValid() {
		return api.Span{}, api.ErrArg
	}
	return c.lift(t)
}

// Aim returns the directions that may lead to a speed.
func Aim(v, push, pull api.Span, time, want api.Num, rounds int) (t api.Span, used int, e api.Errno) {
	c := climb{v, push, pull, time}
	if !c.isValid() || !isNumber(want) || rounds < 0 || rounds > api.MaxRounds {
		return api.Span{}, 0, api.ErrArg
	}
	top, e := c.lift(whole(1))
	if e != api.OK {
		return api.Span{}, 0, e
	}
	bottom, e := c.lift(whole(-1))
	if e != api.OK {
		return api.Span{}, 0, e
	}
	if top.Hi < want || bottom.Lo > want {
		return api.Span{}, 0, api.ErrNone
	}
	t, used = c.narrow(want, rounds)
	return t, used, api.OK
}

// narrow halves the range of directions, as long as it is clear in which half those are that lead to a speed, and returns how many rounds that took.
func (c climb) narrow(want api.Num, rounds int) (t api.Span, used int) {
	t = api.Span{Lo: -api.One, Hi: api.One}
	for used < rounds && t.Hi-t.Lo >= 2 {
		used++
		m, _ := span.Mid(t)
		speed, _ := c.lift(point(m)) // it is between those of -1 and 1, which have no error
		switch span.Order(speed, point(want)) {
		case minus:
			t.Lo = m
		case plus:
			t.Hi = m
		default:
			return t, used
		}
	}
	return t, used
}
