package nav_test

import (
	"testing"

	"ullage/api"
	"ullage/nav"
)

// TestCheckRadio: P6.1.
func TestCheckRadio(t *testing.T) {
	for kind := range 4 {
		anything := api.Radio{Kind: kind, From: api.Box{all(), all(), all()}, Dir: api.Box{all(), all(), all()}, Value: all()}
		for _, m := range []api.Radio{{Kind: kind}, fullRadio(kind), anything} {
			want(t, "CheckRadio", nav.CheckRadio(m), api.OK, api.OK, api.OK)
		}
	}
	for _, m := range wrongRadios() {
		if e := nav.CheckRadio(m); e != api.ErrArg {
			t.Errorf("CheckRadio(%v): error %d", m, e)
		}
	}
}

// TestReading: P6.1.
func TestReading(t *testing.T) {
	s := api.State{T: 5, P: box(3, 4, 12), V: box(0, 0, 13), M: whole(1)}
	wide := api.State{P: api.Box{ints(3, 6), ints(-8, -4), whole(0)}, V: api.Box{ints(-1, 2), whole(0), ints(7, 8)}, M: whole(1)}
	distant := api.State{P: api.Box{all(), all(), all()}, V: api.Box{all(), all(), all()}, M: whole(1)}
	one := api.Box{whole(1), whole(1), whole(1)}
	for _, c := range []struct {
		what   string
		s      api.State
		m      api.Radio
		wanted api.Span
		e      api.Errno
	}{
		{"a distance from 0", s, api.Radio{Kind: distance}, whole(13), api.OK},
		{"a distance from elsewhere", s, api.Radio{Kind: distance, From: box(3, 1, 8)}, whole(5), api.OK},
		{"a distance from the place itself", s, api.Radio{Kind: distance, From: s.P}, whole(0), api.OK},
		{"distances", wide, api.Radio{Kind: distance}, ints(5, 10), api.OK},
		{"distances from places", wide, api.Radio{Kind: distance, From: api.Box{ints(1, 3), ints(0, 4), whole(0)}}, ints(4, 13), api.OK},
		{"a direction plays no part", s, api.Radio{Kind: distance, Dir: one, Value: whole(7)}, whole(13), api.OK},
		{"a speed away from 0", s, api.Radio{Kind: departure}, whole(12), api.OK},
		{"a speed away from elsewhere", s, api.Radio{Kind: departure, From: box(3, 4, 14)}, whole(-13), api.OK},
		{"speeds", wide, api.Radio{Kind: departure}, parts(-12, 24, 10), api.OK},
		{"a speed away from the place itself", s, api.Radio{Kind: departure, From: s.P}, api.Span{}, api.ErrZero},
		{"a speed away from what may be the place", s, api.Radio{Kind: departure, From: api.Box{ints(2, 3), ints(4, 5), ints(0, 99)}}, api.Span{}, api.ErrZero},
		{"a place along a direction", s, api.Radio{Kind: alongPlace, Dir: box(1, -1, 2)}, whole(23), api.OK},
		{"places along directions", wide, api.Radio{Kind: alongPlace, Dir: api.Box{ints(-1, 1), whole(2), whole(5)}}, ints(-22, -2), api.OK},
		{"a velocity along a direction", s, api.Radio{Kind: alongVelocity, Dir: box(1, -1, 2)}, whole(26), api.OK},
		{"velocities along directions", wide, api.Radio{Kind: alongVelocity, Dir: api.Box{ints(1, 2), whole(5), whole(-1)}}, ints(-10, -3), api.OK},
		{"no direction", s, api.Radio{Kind: alongPlace}, whole(0), api.OK},
		{"a way that is too long", distant, api.Radio{Kind: distance, From: one}, api.Span{}, api.ErrRange},
		{"a distance that is too great", distant, api.Radio{Kind: distance}, api.Span{}, api.ErrRange},
		{"a way that is too long, for a speed", distant, api.Radio{Kind: departure, From: one}, api.Span{}, api.ErrRange},
		{"a product that is too great, before the zero", api.State{P: api.Box{all()}, V: api.Box{all()}, M: whole(1)}, api.Radio{Kind: departure}, api.Span{}, api.ErrRange},
		{"a place that is too far away, along a direction", distant, api.Radio{Kind: alongPlace, Dir: one}, api.Span{}, api.ErrRange},
		{"a velocity that is too great, along a direction", distant, api.Radio{Kind: alongVelocity, Dir: one}, api.Span{}, api.ErrRange},
		{"no distance is needed along a direction", distant, api.Radio{Kind: alongPlace, From: one, Dir: box(-1, 0, 0)}, all(), api.OK},
		{"nor of a velocity", distant, api.Radio{Kind: alongVelocity, From: one, Dir: box(0, 1, 0)}, all(), api.OK},
	} {
		a, e := nav.Reading(c.s, c.m)
		want(t, c.what, a, e, c.wanted, c.e)
	}
}

// TestAgrees: P6.1. The ends of a value belong to it.
func TestAgrees(t *testing.T) {
	s := at(api.Box{ints(3, 5), whole(0), whole(0)})
	for _, c := range []struct {
		what   string
		value  api.Span
		wanted int
	}{
		{"the same", ints(3, 5), 1},
		{"all of it, and more", ints(2, 6), 1},
		{"all but its end", api.Span{Lo: 3 * api.One, Hi: 5*api.One - 1}, 0},
		{"all but its beginning", api.Span{Lo: 3*api.One + 1, Hi: 5 * api.One}, 0},
		{"a part", whole(4), 0},
		{"its end", ints(5, 9), 0},
		{"its beginning", ints(1, 3), 0},
		{"behind its end", api.Span{Lo: 5*api.One + 1, Hi: 9 * api.One}, -1},
		{"before its beginning", api.Span{Lo: -9 * api.One, Hi: 3*api.One - 1}, -1},
		{"all numbers", all(), 1},
	} {
		for _, m := range []api.Radio{far(c.value), along(box(1, 7, 7), c.value)} {
			want(t, c.what, nav.Agrees(s, m), api.OK, c.wanted, api.OK)
		}
		v := going(s.P)
		m := api.Radio{Kind: alongVelocity, Dir: box(1, 7, 7), Value: c.value}
		want(t, c.what+", of a velocity", nav.Agrees(v, m), api.OK, c.wanted, api.OK)
		v.P = box(2, 0, 0)
		m = api.Radio{Kind: departure, Value: c.value}
		want(t, c.what+", of a speed", nav.Agrees(v, m), api.OK, c.wanted, api.OK)
	}
	want(t, "a reading with an error", nav.Agrees(s, api.Radio{Kind: departure, From: s.P, Value: all()}), api.OK, 0, api.OK)
	want(t, "another one", nav.Agrees(s, along(box(huge*huge/1000, 0, 0), all())), api.OK, 0, api.OK)
}

// TestWrongArguments: P6.1, P6.2, ErrArg of all that is not valid.
func TestWrongArguments(t *testing.T) {
	check := func(what string, s api.State, m api.Radio) {
		t.Helper()
		a, e := nav.Reading(s, m)
		want(t, "Reading, "+what, a, e, api.Span{}, api.ErrArg)
		want(t, "Agrees, "+what, nav.Agrees(s, m), api.OK, 0, api.OK)
		c, e := nav.Cut(s, m)
		want(t, "Cut, "+what, c, e, api.State{}, api.ErrArg)
	}
	for _, m := range wrongRadios() {
		check("a wrong measurement", fullState(), m)
		// All of it would be an error, too.
		check("a wrong measurement of nothing", at(api.Box{all(), all(), all()}), m)
	}
	for _, s := range wrongStates() {
		for kind := range 4 {
			check("a wrong state", s, fullRadio(kind))
		}
		check("both wrong", s, wrongRadios()[0])
	}
}
