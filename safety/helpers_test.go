package safety_test

import (
	"cmp"
	"slices"
	"testing"

	"ullage/api"
	"ullage/safety"
)

const (
	ground   = 1 << 28    // the greatest number of a zone
	farthest = 2 * ground // the greatest number of a rect
	least    = -1 << 63
	greatest = 1<<63 - 1
)

// spots returns places from pairs of numbers.
func spots(numbers ...int) []api.Spot {
	var l []api.Spot
	for i := 0; i < len(numbers); i += 2 {
		l = append(l, api.Spot{X: numbers[i], Y: numbers[i+1]})
	}
	return l
}

// zone returns a zone from the numbers of its corners.
func zone(numbers ...int) api.Zone { return api.Zone{Name: "z", Corners: spots(numbers...)} }

// moved returns a zone that lies elsewhere.
func moved(z api.Zone, x, y int) api.Zone {
	z.Corners = slices.Clone(z.Corners)
	for i := range z.Corners {
		z.Corners[i].X += x
		z.Corners[i].Y += y
	}
	return z
}

// block returns the zone from one place to another one.
func block(a, b, c, d int) api.Zone { return zone(a, b, c, b, c, d, a, d) }

// square is the zone q of the chapter.
func square() api.Zone { return block(0, 0, 100, 100) }

// rect returns a rect.
func rect(a, b, c, d int) api.Rect {
	return api.Rect{Low: api.Spot{X: a, Y: b}, High: api.Spot{X: c, Y: d}}
}

// wider returns a rect that reaches n farther to all sides.
func wider(r api.Rect, n int) api.Rect {
	return rect(r.Low.X-n, r.Low.Y-n, r.High.X+n, r.High.Y+n)
}

// holds reports whether a rect contains a place.
func holds(r api.Rect, s api.Spot) bool {
	return r.Low.X <= s.X && s.X <= r.High.X && r.Low.Y <= s.Y && s.Y <= r.High.Y
}

// town returns a town.
func town(z api.Zone, people, area int) api.Town {
	return api.Town{Zone: z, People: people, Area: area}
}

// polygon returns a zone with so many corners, on a parabola.
func polygon(corners int) api.Zone {
	z := api.Zone{Name: "p"}
	for i := range corners {
		z.Corners = append(z.Corners, api.Spot{X: 10 * i, Y: 10 * i * i})
	}
	return z
}

// wantZone checks whether a zone is valid, also for all functions that need a zone.
func wantZone(t *testing.T, what string, z api.Zone, wanted bool) {
	t.Helper()
	if safety.CheckZone(z) != wanted {
		t.Errorf("%s: not %v", what, wanted)
	}
	e := api.ErrArg
	if wanted {
		e = api.OK
	}
	town := api.Safety{Allowed: square(), Towns: []api.Town{town(z, 0, 1)}}
	for i, p := range []api.Safety{{Allowed: z}, {Allowed: square(), Protected: []api.Zone{square(), z}}, town} {
		if safety.CheckPlan(p) != wanted {
			t.Errorf("%s: plan %d is not %v", what, i, wanted)
		}
	}
	if _, got := safety.Side(z, rect(0, 0, 1, 1)); got != e {
		t.Errorf("%s: Side: error %d", what, got)
	}
	if _, got := safety.Apart(z, square(), 0); got != e {
		t.Errorf("%s: Apart: error %d", what, got)
	}
	if _, got := safety.Apart(square(), z, 0); got != e {
		t.Errorf("%s: Apart, the other way: error %d", what, got)
	}
	if len(z.Corners) > 0 && safety.Contains(z, z.Corners[0]) != wanted {
		t.Errorf("%s: its corner is not in it: %v", what, wanted)
	}
}

// wantSide checks the side of a rect.
func wantSide(t *testing.T, z api.Zone, r api.Rect, wanted int) {
	t.Helper()
	if n, e := safety.Side(z, r); n != wanted || e != api.OK {
		t.Errorf("side of %v and %v: %d, error %d; want %d", z.Corners, r, n, e, wanted)
	}
}

// wantApart checks whether two zones are apart, both ways round.
func wantApart(t *testing.T, a, b api.Zone, r int, wanted bool) {
	t.Helper()
	for range 2 {
		if is, e := safety.Apart(a, b, r); is != wanted || e != api.OK {
			t.Errorf("%v and %v, more than %d apart: %v, error %d; want %v", a.Corners, b.Corners, r, is, e, wanted)
		}
		a, b = b, a
	}
}

// num returns a number of so many parts of 2^-bits.
func num(n int, bits int) api.Num { return api.Num(n) << (32 - bits) }

// whole returns the point of an integer.
func whole(n int) api.Span { return api.Span{Lo: num(n, 0), Hi: num(n, 0)} }

// fields returns the spans of something that falls.
func fields(f *api.Falling) []*api.Span {
	return []*api.Span{&f.X, &f.Y, &f.H, &f.VX, &f.VY, &f.VZ, &f.Pull, &f.WX, &f.WY}
}

// wantImpact checks where something hits the ground.
func wantImpact(t *testing.T, what string, f api.Falling, wanted api.Rect) {
	t.Helper()
	if r, e := safety.Impact(f); r != wanted || e != api.OK {
		t.Errorf("%s: %v, error %d; want %v", what, r, e, wanted)
	}
}

// wantNoImpact checks the error of an impact.
func wantNoImpact(t *testing.T, what string, f api.Falling, wanted api.Errno) {
	t.Helper()
	if r, e := safety.Impact(f); r != (api.Rect{}) || e != wanted {
		t.Errorf("%s: %v, error %d; want error %d", what, r, e, wanted)
	}
}

// wantRisk checks a risk.
func wantRisk(t *testing.T, p api.Safety, r api.Rect, wanted int) {
	t.Helper()
	if n, e := safety.Risk(p, r); n != wanted || e != api.OK {
		t.Errorf("risk of %v: %d, error %d; want %d", r, n, e, wanted)
	}
}

// wantClear checks whether a plan is clear.
func wantClear(t *testing.T, p api.Safety, wanted bool) {
	t.Helper()
	if is, e := safety.Clear(p); is != wanted || e != api.OK {
		t.Errorf("clear: %v, error %d; want %v", is, e, wanted)
	}
}

// newUnit returns a unit.
func newUnit(t *testing.T, p api.Safety) *safety.Unit {
	t.Helper()
	u, e := safety.NewUnit(p)
	if u == nil || e != api.OK {
		t.Fatalf("NewUnit: error %d", e)
	}
	return u
}

// wantTick checks the verdict of a tick, and the doubt behind it.
func wantTick(t *testing.T, u *safety.Unit, r api.Rect, there bool, wanted api.Verdict, doubt int) {
	t.Helper()
	if v, e := u.Tick(r, there); v != wanted || e != api.OK || u.Doubt() != doubt {
		t.Errorf("tick with %v, %v: %v, error %d, doubt %d; want %v, %d", r, there, v, e, u.Doubt(), wanted, doubt)
	}
}

// wantNoTick checks the error of a tick, and that the doubt stays.
func wantNoTick(t *testing.T, u *safety.Unit, r api.Rect, there bool, wanted api.Errno) {
	t.Helper()
	doubt := u.Doubt()
	if v, e := u.Tick(r, there); v != (api.Verdict{}) || e != wanted || u.Doubt() != doubt {
		t.Errorf("tick with %v, %v: %v, error %d, doubt %d; want error %d, doubt %d", r, there, v, e, u.Doubt(), wanted, doubt)
	}
}

// at returns the verdict that nothing is decided, with a rect that is known.
func at(r api.Rect) api.Verdict { return api.Verdict{Known: true, At: r} }

// ended returns the verdict to destruct, with a rect that is known.
func ended(why int, r api.Rect) api.Verdict {
	return api.Verdict{Destruct: true, Why: why, Known: true, At: r}
}

// hull returns the corners of the least convex polygon that contains all places, anticlockwise; it has less than 3 if they are on a line.
func hull(l []api.Spot) []api.Spot {
	l = slices.Clone(l)
	slices.SortFunc(l, func(a, b api.Spot) int { return cmp.Or(cmp.Compare(a.X, b.X), cmp.Compare(a.Y, b.Y)) })
	l = slices.Compact(l)
	var out []api.Spot
	for range 2 {
		begin := len(out)
		for _, s := range l {
			for len(out) >= begin+2 && turn(out[len(out)-2], out[len(out)-1], s) <= 0 {
				out = out[:len(out)-1]
			}
			out = append(out, s)
		}
		out = out[:len(out)-1]
		slices.Reverse(l)
	}
	return out
}

// sample makes numbers in a fixed order that looks like none.
type sample struct{ state uint64 }

// next returns a number of 64 bits.
func (s *sample) next() uint64 {
	s.state = s.state*6364136223846793005 + 1442695040888963407
	n := s.state
	n ^= n >> 29
	n *= 0xbf58476d1ce4e5b9
	return n ^ n>>32
}

// below returns a number from 0 to below n.
func (s *sample) below(n int) int { return int(s.next() % uint64(n)) }

// from returns a number from low to high.
func (s *sample) from(low, high int) int { return low + s.below(high-low+1) }

// yes returns true once in n times.
func (s *sample) yes(n int) bool { return s.below(n) == 0 }

// wild returns any number, often one at an edge.
func (s *sample) wild() int {
	l := []int{least, -1, 0, 1, 2, 3, 16, 17, 100, 1000, 1001, ground, ground + 1, -ground, -ground - 1, farthest, farthest + 1, -farthest, -farthest - 1, 1 << 30, 1<<30 + 1, 1 << 40, 1<<40 + 1, greatest, int(s.next())}
	return l[s.below(len(l))]
}

// spot returns a place whose numbers are at most so far from 0.
func (s *sample) spot(far int) api.Spot { return api.Spot{X: s.from(-far, far), Y: s.from(-far, far)} }

// zone returns a valid zone within so far of 0.
func (s *sample) zone(far int) api.Zone {
	for {
		l := make([]api.Spot, s.from(3, 30))
		for i := range l {
			l[i] = s.spot(far)
		}
		corners := hull(l)
		for len(corners) > api.MaxCorners {
			i := s.below(len(corners))
			corners = slices.Delete(corners, i, i+1)
		}
		if len(corners) >= 3 {
			first := s.below(len(corners))
			return api.Zone{Name: "z", Corners: slices.Concat(corners[first:], corners[:first])}
		}
	}
}

// small returns a valid zone of at most this size, somewhere within so far of 0.
func (s *sample) small(size, far int) api.Zone {
	return moved(s.zone(size), s.from(size-far, far-size), s.from(size-far, far-size))
}

// rect returns a valid rect of at most this size, somewhere within so far of 0.
func (s *sample) rect(size, far int) api.Rect {
	low := s.spot(far)
	return rect(low.X, low.Y, min(low.X+s.from(0, size), far), min(low.Y+s.from(0, size), far))
}

// plan returns a valid plan around 0.
func (s *sample) plan(far int) api.Safety {
	p := api.Safety{Allowed: s.zone(far), Rate: s.below(4), Patience: s.below(5), Scatter: s.below(7), Hits: s.below(40)}
	for range s.below(4) {
		p.Protected = append(p.Protected, s.small(far/2, 3*far))
	}
	for range s.below(4) {
		p.Towns = append(p.Towns, town(s.small(far/2, 2*far), s.below(1000), s.from(1, 50)))
	}
	return p
}
