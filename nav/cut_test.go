package nav_test

import (
	"testing"

	"ullage/api"
	"ullage/nav"
)

// cutting is a cut of a box: of a place, or of a velocity.
type cutting struct {
	what   string
	box    api.Box
	m      api.Radio
	wanted api.Box
	e      api.Errno
}

// cutPlaces checks cuts of places: all else stays.
func cutPlaces(t *testing.T, l []cutting) {
	t.Helper()
	for _, c := range l {
		s := api.State{T: -7, P: c.box, V: api.Box{ints(1, 2), ints(-3, 4), all()}, M: ints(5, 6)}
		wanted := s
		wanted.P = c.wanted
		if c.e != api.OK {
			wanted = api.State{}
		}
		got, e := nav.Cut(s, c.m)
		want(t, c.what, got, e, wanted, c.e)
	}
}

// TestCutByDistance: P6.2.
func TestCutByDistance(t *testing.T) {
	line := func(low, high int) api.Box { return api.Box{ints(low, high), whole(0), whole(0)} }
	from := func(b api.Box, value api.Span) api.Radio { return api.Radio{Kind: distance, From: b, Value: value} }
	tiny := point(1)
	cutPlaces(t, []cutting{
		{"both ways", line(-10, 10), far(ints(3, 5)), line(-5, 5), api.OK},
		{"one way", line(1, 10), far(ints(3, 5)), line(3, 5), api.OK},
		{"the other way", line(-10, 1), far(ints(3, 5)), line(-5, -3), api.OK},
		{"both ways, a part of one", line(-4, 10), far(ints(3, 5)), line(-4, 5), api.OK},
		{"both ways, but only the ends", line(-3, 3), far(ints(3, 5)), line(-3, 3), api.OK},
		{"neither way, too near", line(0, 1), far(ints(3, 5)), api.Box{}, api.ErrNone},
		{"neither way, just too near", api.Box{{Lo: 1 - 3*api.One, Hi: 3*api.One - 1}}, far(ints(3, 5)), api.Box{}, api.ErrNone},
		{"neither way, too far", line(6, 7), far(ints(3, 5)), api.Box{}, api.ErrNone},
		{"within already", line(3, 5), far(ints(3, 5)), line(3, 5), api.OK},
		{"too far aside", api.Box{ints(-9, 9), ints(6, 7), whole(0)}, far(ints(3, 5)), api.Box{}, api.ErrNone},
		{"maybe too far aside", api.Box{ints(-9, 9), ints(4, 7), whole(0)}, far(ints(3, 5)), api.Box{ints(-3, 3), ints(4, 5), whole(0)}, api.OK},
		{"x by y", api.Box{ints(0, 10), whole(4), whole(0)}, far(whole(5)), box(3, 4, 0), api.OK},
		{"x by z", api.Box{ints(0, 10), whole(0), whole(-4)}, far(whole(5)), box(3, 0, -4), api.OK},
		{"y by x", api.Box{whole(3), ints(-10, 0), whole(0)}, far(whole(5)), box(3, -4, 0), api.OK},
		{"y by z", api.Box{whole(0), ints(-10, 0), whole(3)}, far(whole(5)), box(0, -4, 3), api.OK},
		{"z by both", api.Box{whole(3), whole(4), ints(1, 20)}, far(whole(13)), box(3, 4, 12), api.OK},
		// y becomes 0 to 4, and z is cut by that: its square is at least 25 - 9 - 16.
		{"one after the other", api.Box{whole(3), ints(0, 10), ints(0, 10)}, far(whole(5)), api.Box{whole(3), ints(0, 4), ints(0, 4)}, api.OK},
		// x becomes 3 to 5, of which y and z know.
		{"what was cut counts", api.Box{ints(3, 10), ints(0, 10), whole(0)}, far(whole(5)), api.Box{ints(3, 5), ints(0, 4), whole(0)}, api.OK},
		{"from elsewhere", api.Box{ints(0, 10), whole(3), whole(1)}, from(box(7, -1, 1), whole(5)), api.Box{ints(4, 10), whole(3), whole(1)}, api.OK},
		{"from places", line(0, 10), from(api.Box{ints(1, 2), whole(0), whole(0)}, ints(3, 4)), line(4, 6), api.OK},
		{"from places on both sides", line(0, 10), from(api.Box{ints(4, 5), whole(0), whole(0)}, ints(2, 3)), line(1, 8), api.OK},
		{"some distances that there are not", line(-10, 10), far(ints(-3, 5)), line(-5, 5), api.OK},
		{"only distances that there are not", line(-10, 10), far(api.Span{Lo: -api.One, Hi: -1}), api.Box{}, api.ErrNone},
		{"such ones, of a way that is too long", api.Box{all(), all(), all()}, from(box(1, 1, 1), ints(-2, -1)), api.Box{}, api.ErrNone},
		{"no distance", line(-10, 10), far(whole(0)), line(0, 0), api.OK},
		{"no distance, but elsewhere", line(1, 10), far(whole(0)), api.Box{}, api.ErrNone},
		{"no distance, or negative ones", line(-10, 10), far(ints(-9, 0)), line(0, 0), api.OK},
		{"no distance, but next to it", api.Box{tiny, tiny, tiny}, far(whole(0)), api.Box{}, api.ErrNone},
		{"next to no distance", api.Box{tiny, tiny, tiny}, far(api.Span{Lo: 0, Hi: 2}), api.Box{tiny, tiny, tiny}, api.OK},
		{"the greatest distance", line(-10, 50000), far(ints(0, 46340)), api.Box{}, api.ErrRange},
		{"the greatest distance, of what is nearer", line(-10, 40000), far(ints(39000, 46340)), line(39000, 40000), api.OK},
		{"a distance that is too great", line(-10, 10), far(ints(0, 46341)), api.Box{}, api.ErrRange},
		{"squares the sum of which is too great", api.Box{whole(0), whole(40000), whole(40000)}, far(whole(1)), api.Box{}, api.ErrRange},
		{"the same at y", api.Box{whole(40000), whole(0), whole(40000)}, far(ints(0, 46340)), api.Box{}, api.ErrNone},
		{"a way that is too long", api.Box{whole(0), all(), whole(0)}, from(box(0, 1, 0), whole(1)), api.Box{}, api.ErrRange},
	})
}

// TestCutBySum: P6.2.
func TestCutBySum(t *testing.T) {
	square := api.Box{ints(0, 4), ints(0, 4), whole(0)}
	line := func(low, high int) api.Box { return api.Box{ints(low, high), whole(0), whole(0)} }
	tiny := point(1)
	top := whole(1 << 20)
	cutPlaces(t, []cutting{
		{"the example", square, along(box(1, 1, 0), ints(7, 9)), api.Box{ints(3, 4), ints(3, 4), whole(0)}, api.OK},
		{"one direction", square, along(box(2, 0, 0), ints(2, 4)), api.Box{ints(1, 2), ints(0, 4), whole(0)}, api.OK},
		{"the other direction", square, along(box(0, -1, 0), ints(-3, -1)), api.Box{ints(0, 4), ints(1, 3), whole(0)}, api.OK},
		{"up", api.Box{ints(0, 4), ints(0, 4), ints(-9, 9)}, along(box(1, 1, 1), whole(10)), api.Box{ints(0, 4), ints(0, 4), ints(2, 9)}, api.OK},
		{"all", api.Box{ints(0, 4), ints(0, 4), ints(0, 4)}, along(box(1, 2, 4), whole(28)), box(4, 4, 4), api.OK},
		{"what was cut counts", api.Box{ints(0, 9), ints(0, 1), whole(0)}, along(box(1, -1, 0), whole(0)), api.Box{ints(0, 1), ints(0, 1), whole(0)}, api.OK},
		{"x before y", api.Box{ints(0, 1), ints(0, 9), whole(0)}, along(box(1, -1, 0), whole(0)), api.Box{ints(0, 1), ints(0, 1), whole(0)}, api.OK},
		{"within already", square, along(box(1, 1, 0), ints(0, 8)), square, api.OK},
		{"just a corner", square, along(box(1, 1, 0), ints(8, 9)), box(4, 4, 0), api.OK},
		{"just not a corner", square, along(box(1, 1, 0), api.Span{Lo: 8*api.One + 1, Hi: 9 * api.One}), api.Box{}, api.ErrNone},
		{"directions", square, along(api.Box{ints(1, 2), whole(0), whole(0)}, ints(4, 6)), api.Box{ints(2, 4), ints(0, 4), whole(0)}, api.OK},
		{"negative directions", square, along(api.Box{ints(-2, -1), whole(0), whole(0)}, ints(-6, -4)), api.Box{ints(2, 4), ints(0, 4), whole(0)}, api.OK},
		{"a direction that may be none", square, along(api.Box{ints(-1, 1), whole(1), whole(0)}, whole(7)), api.Box{ints(0, 4), ints(3, 4), whole(0)}, api.OK},
		{"a direction that may just be none", square, along(api.Box{ints(0, 1), whole(1), whole(0)}, whole(7)), api.Box{ints(0, 4), ints(3, 4), whole(0)}, api.OK},
		{"a direction that may not be none", square, along(api.Box{{Lo: api.One / 2, Hi: api.One}, whole(1), whole(0)}, whole(7)), api.Box{ints(3, 4), ints(3, 4), whole(0)}, api.OK},
		{"only such ones", line(0, 4), along(api.Box{ints(-1, 1), whole(0), whole(0)}, ints(4, 6)), line(0, 4), api.OK},
		{"only such ones, and too great a sum", line(0, 4), along(api.Box{ints(-1, 1), whole(0), whole(0)}, api.Span{Lo: 4*api.One + 1, Hi: 6 * api.One}), api.Box{}, api.ErrNone},
		{"only such ones, and too small a sum", line(0, 4), along(api.Box{ints(-1, 1), whole(0), whole(0)}, api.Span{Lo: -6 * api.One, Hi: -4*api.One - 1}), api.Box{}, api.ErrNone},
		{"no direction, no sum", square, along(box(0, 0, 0), ints(-1, 0)), square, api.OK},
		{"no direction, a sum", square, along(box(0, 0, 0), ints(1, 2)), api.Box{}, api.ErrNone},
		{"a quotient that is too great", api.Box{ints(0, 1), ints(0, 1<<21), whole(0)}, along(api.Box{tiny, whole(1), whole(0)}, top), api.Box{ints(0, 1), {Lo: 1<<52 - 1, Hi: 1 << 52}, whole(0)}, api.OK},
		{"a From that is too far away", api.Box{all(), whole(0), whole(0)}, api.Radio{Kind: alongPlace, From: box(1, 1, 1), Dir: box(1, 0, 0), Value: ints(2, 3)}, line(2, 3), api.OK},
		{"a product that is too great", api.Box{whole(0), whole(1 << 20), whole(0)}, along(api.Box{whole(1), whole(1 << 20), whole(0)}, all()), api.Box{}, api.ErrRange},
		{"the same, where the direction is none", api.Box{whole(0), ints(0, 1<<20), whole(0)}, along(api.Box{whole(0), whole(1 << 20), whole(0)}, whole(0)), api.Box{}, api.ErrRange},
		{"two products that are too great together", api.Box{ints(0, 4), whole(1 << 30), whole(1 << 30)}, along(box(1, 1, 1), whole(9)), api.Box{}, api.ErrRange},
		{"a difference that is too great", api.Box{whole(0), whole(-1 << 30), whole(0)}, along(box(0, 1, 0), whole(1<<30)), api.Box{}, api.ErrRange},
		{"a sum that is too great", api.Box{{Lo: api.MostNum - 1, Hi: api.MostNum}, {Lo: 1, Hi: 1}, {Lo: -1, Hi: -1}}, along(box(1, 1, 1), point(api.MostNum)), api.Box{}, api.ErrRange},
	})
}

// TestCutVelocity: P6.2. Speeds away and velocities along a direction cut the velocity alone.
func TestCutVelocity(t *testing.T) {
	wide := api.Box{ints(-9, 9), ints(-9, 9), ints(-9, 9)}
	away := func(from api.Box, value api.Span) api.Radio {
		return api.Radio{Kind: departure, From: from, Value: value}
	}
	along := func(dir api.Box, value api.Span) api.Radio {
		return api.Radio{Kind: alongVelocity, Dir: dir, Value: value}
	}
	for _, c := range []struct {
		place api.Box
		cutting
	}{
		{box(0, 0, 2), cutting{"a speed away from 0", wide, away(box(0, 0, 0), ints(3, 4)), api.Box{ints(-9, 9), ints(-9, 9), ints(3, 4)}, api.OK}},
		{box(0, 0, 2), cutting{"a speed away from elsewhere", wide, away(box(0, 7, 2), ints(3, 4)), api.Box{ints(-9, 9), ints(-4, -3), ints(-9, 9)}, api.OK}},
		{box(3, 4, 0), cutting{"a speed aslant", api.Box{ints(-9, 9), whole(1), whole(0)}, away(box(0, 0, 0), whole(2)), box(2, 1, 0), api.OK}},
		{box(3, 4, 0), cutting{"speeds aslant", api.Box{whole(2), ints(-9, 9), whole(0)}, away(box(0, 0, 0), ints(2, 10)), api.Box{whole(2), ints(1, 9), whole(0)}, api.OK}},
		{api.Box{ints(1, 2), whole(0), whole(0)}, cutting{"from places", api.Box{ints(0, 9), whole(0), whole(0)}, away(box(0, 0, 0), ints(2, 3)), api.Box{ints(1, 6), whole(0), whole(0)}, api.OK}},
		{api.Box{ints(-1, 1), whole(0), whole(1)}, cutting{"a way that may be none", api.Box{ints(0, 9), whole(0), ints(0, 9)}, away(box(0, 0, 0), whole(9)), api.Box{ints(0, 9), whole(0), ints(0, 9)}, api.OK}},
		{box(1, 1, 1), cutting{"the place itself", wide, away(box(1, 1, 1), ints(3, 4)), wide, api.OK}},
		{box(0, 0, 2), cutting{"too great a speed", wide, away(box(0, 0, 0), ints(10, 11)), api.Box{}, api.ErrNone}},
		{box(0, 0, 2), cutting{"a product that is too great", wide, away(box(0, 0, 0), all()), api.Box{}, api.ErrRange}},
		{box(0, 0, 50000), cutting{"a distance that is too great", wide, away(box(0, 0, 0), whole(0)), api.Box{}, api.ErrRange}},
		{api.Box{all()}, cutting{"a way that is too long", wide, away(box(1, 0, 0), whole(0)), api.Box{}, api.ErrRange}},
		{box(0, 0, 0), cutting{"a velocity along a direction", wide, along(box(0, 3, 0), ints(6, 33)), api.Box{ints(-9, 9), ints(2, 9), ints(-9, 9)}, api.OK}},
		{box(0, 0, 0), cutting{"a velocity aslant", api.Box{ints(0, 4), ints(0, 4), whole(0)}, along(box(1, 1, 0), ints(7, 9)), api.Box{ints(3, 4), ints(3, 4), whole(0)}, api.OK}},
		{box(0, 0, 0), cutting{"too great a velocity", wide, along(box(1, 0, 0), ints(10, 11)), api.Box{}, api.ErrNone}},
		{api.Box{all()}, cutting{"no way is needed", wide, api.Radio{Kind: alongVelocity, From: box(1, 1, 1), Dir: box(1, 0, 0), Value: whole(2)}, api.Box{whole(2), ints(-9, 9), ints(-9, 9)}, api.OK}},
	} {
		s := api.State{T: 7, P: c.place, V: c.box, M: ints(5, 6)}
		wanted := api.State{T: 7, P: c.place, V: c.wanted, M: ints(5, 6)}
		if c.e != api.OK {
			wanted = api.State{}
		}
		got, e := nav.Cut(s, c.m)
		want(t, c.what, got, e, wanted, c.e)
	}
}
