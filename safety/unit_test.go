package safety_test

import (
	"testing"

	"ullage/api"
	"ullage/safety"
)

// TestChapterUnit: the chapter's example.
func TestChapterUnit(t *testing.T) {
	u := newUnit(t, api.Safety{Allowed: square(), Rate: 1, Patience: 1})
	wantTick(t, u, rect(10, 10, 20, 20), true, at(rect(10, 10, 20, 20)), 0)
	wantTick(t, u, rect(95, 0, 101, 5), true, at(rect(95, 0, 101, 5)), 1)
	wantTick(t, u, api.Rect{}, false, ended(2, rect(94, -1, 102, 6)), 2)
	wantNoTick(t, u, rect(10, 10, 20, 20), true, api.ErrState)
	wantNoTick(t, u, api.Rect{}, false, api.ErrState)
	if e := u.Safe(); e != api.ErrState {
		t.Error(e)
	}
}

// TestOutside: P9.6; a rect that is surely outside ends the flight at once, whatever the doubt is.
func TestOutside(t *testing.T) {
	p := api.Safety{Allowed: square(), Rate: 1, Patience: 9}
	u := newUnit(t, p)
	wantTick(t, u, rect(101, 0, 101, 0), true, ended(1, rect(101, 0, 101, 0)), 0)
	u = newUnit(t, p)
	wantTick(t, u, api.Rect{}, false, api.Verdict{}, 1)
	wantTick(t, u, rect(90, 0, 101, 0), true, at(rect(90, 0, 101, 0)), 2)
	wantTick(t, u, rect(101, 0, 102, 1), true, ended(1, rect(101, 0, 102, 1)), 2)
	wantNoTick(t, u, rect(1, 1, 2, 2), true, api.ErrState)
}

// TestUnknown: P9.6; no report has come yet.
func TestUnknown(t *testing.T) {
	for patience := range 5 {
		u := newUnit(t, api.Safety{Allowed: square(), Rate: 1, Patience: patience})
		for i := range patience {
			wantTick(t, u, rect(9, 9, 5, 5), false, api.Verdict{}, i+1)
		}
		wantTick(t, u, rect(9, 9, 9, 9), false, api.Verdict{Destruct: true, Why: 2}, patience+1)
		wantNoTick(t, u, api.Rect{}, true, api.ErrState)
	}
	u := newUnit(t, api.Safety{Allowed: square(), Rate: 1, Patience: 2})
	wantTick(t, u, rect(9, 9, 9, 9), false, api.Verdict{}, 1)
	wantTick(t, u, api.Rect{}, false, api.Verdict{}, 2)
	wantTick(t, u, rect(9, 9, 9, 9), true, at(rect(9, 9, 9, 9)), 0)
	wantTick(t, u, rect(-9, -9, -9, -9), false, at(rect(8, 8, 10, 10)), 0)
}

// TestPatience: P9.6; how long a doubt may last, and that it ends.
func TestPatience(t *testing.T) {
	for _, patience := range []int{0, 1, 2, 1000} {
		u := newUnit(t, api.Safety{Allowed: square(), Patience: patience})
		edge, middle := rect(99, 99, 101, 101), rect(50, 50, 51, 51)
		for range 2 {
			for i := range patience {
				wantTick(t, u, edge, true, at(edge), i+1)
			}
			wantTick(t, u, middle, true, at(middle), 0)
		}
		for i := range patience {
			wantTick(t, u, edge, i%2 == 0, at(edge), i+1)
		}
		wantTick(t, u, edge, true, ended(2, edge), patience+1)
	}
}

// TestDrift: P9.6; without a report the rect is grown by Rate, again and again, and no number leaves its range.
func TestDrift(t *testing.T) {
	u := newUnit(t, api.Safety{Allowed: square(), Rate: 20, Patience: 3})
	wantTick(t, u, rect(45, 45, 50, 55), true, at(rect(45, 45, 50, 55)), 0)
	wantTick(t, u, api.Rect{}, false, at(rect(25, 25, 70, 75)), 0)
	wantTick(t, u, api.Rect{}, false, at(rect(5, 5, 90, 95)), 0)
	wantTick(t, u, api.Rect{}, false, at(rect(-15, -15, 110, 115)), 1)
	wantTick(t, u, rect(1, 1, 2, 2), true, at(rect(1, 1, 2, 2)), 0)
	wantTick(t, u, api.Rect{}, false, at(rect(-19, -19, 22, 22)), 1)

	u = newUnit(t, api.Safety{Allowed: block(-ground, -ground, ground, ground), Rate: ground, Patience: 1000})
	wantTick(t, u, rect(-7, -8, 9, 10), true, at(rect(-7, -8, 9, 10)), 0)
	wantTick(t, u, api.Rect{}, false, at(rect(-7-ground, -8-ground, 9+ground, 10+ground)), 1)
	for i := range 99 {
		wantTick(t, u, api.Rect{}, false, at(rect(-farthest, -farthest, farthest, farthest)), i+2)
	}
	wantTick(t, u, rect(0, -farthest, 0, farthest), true, at(rect(0, -farthest, 0, farthest)), 101)
	wantTick(t, u, api.Rect{}, false, at(rect(-ground, -farthest, ground, farthest)), 102)
	wantTick(t, u, rect(ground, 5, farthest-1, 6), true, at(rect(ground, 5, farthest-1, 6)), 103)
	wantTick(t, u, api.Rect{}, false, at(rect(0, 5-ground, farthest, 6+ground)), 104)
	wantTick(t, u, rect(1-farthest, 5, -ground, 6), true, at(rect(1-farthest, 5, -ground, 6)), 105)
	wantTick(t, u, api.Rect{}, false, at(rect(-farthest, 5-ground, 0, 6+ground)), 106)
}

// TestRefusedTick: P9.6; a report that is not valid changes nothing.
func TestRefusedTick(t *testing.T) {
	u := newUnit(t, api.Safety{Allowed: square(), Rate: 1, Patience: 1})
	wantTick(t, u, rect(99, 50, 101, 50), true, at(rect(99, 50, 101, 50)), 1)
	for range 3 {
		wantNoTick(t, u, rect(5, 5, 4, 5), true, api.ErrArg)
	}
	wantTick(t, u, api.Rect{}, false, ended(2, rect(98, 49, 102, 51)), 2)
	wantNoTick(t, u, rect(5, 5, 4, 5), true, api.ErrState)
}

// TestSafed: P9.6; a unit that is safed decides nothing any more.
func TestSafed(t *testing.T) {
	u := newUnit(t, api.Safety{Allowed: square(), Rate: 1, Patience: 3})
	wantTick(t, u, api.Rect{}, false, api.Verdict{}, 1)
	if e := u.Safe(); e != api.OK || u.Doubt() != 1 {
		t.Error(e, u.Doubt())
	}
	if e := u.Safe(); e != api.ErrState {
		t.Error(e)
	}
	wantNoTick(t, u, rect(200, 0, 201, 1), true, api.ErrState)
	wantNoTick(t, u, rect(5, 5, 4, 5), true, api.ErrState)
	wantNoTick(t, u, rect(5, 5, 6, 6), true, api.ErrState)
	wantNoTick(t, u, api.Rect{}, false, api.ErrState)
	if u.Doubt() != 1 {
		t.Error(u.Doubt())
	}
	u = newUnit(t, api.Safety{Allowed: square()})
	wantTick(t, u, rect(200, 0, 201, 1), true, ended(1, rect(200, 0, 201, 1)), 0)
	if e := u.Safe(); e != api.ErrState {
		t.Error(e)
	}
}

// TestNoUnit: P9.6, R3; units that NewUnit did not return.
func TestNoUnit(t *testing.T) {
	made := newUnit(t, api.Safety{Allowed: square(), Patience: 5})
	wantTick(t, made, api.Rect{}, false, api.Verdict{}, 1)
	made.Safe()
	copied := *made
	for what, u := range map[string]*safety.Unit{"nil": nil, "zero": {}, "new": new(safety.Unit), "a copy": &copied} {
		if v, e := u.Tick(rect(1, 1, 2, 2), true); v != (api.Verdict{}) || e != api.ErrNil {
			t.Errorf("%s: Tick: %v, error %d", what, v, e)
		}
		if v, e := u.Tick(rect(2, 2, 1, 1), true); v != (api.Verdict{}) || e != api.ErrNil {
			t.Errorf("%s: Tick: %v, error %d", what, v, e)
		}
		if e := u.Safe(); e != api.ErrNil {
			t.Errorf("%s: Safe: error %d", what, e)
		}
		if n := u.Doubt(); n != 0 {
			t.Errorf("%s: Doubt: %d", what, n)
		}
	}
	if made.Doubt() != 1 {
		t.Error(made.Doubt())
	}
}

// TestUnitMemory: R4; a unit keeps nothing of its plan's memory, and shares none with other units.
func TestUnitMemory(t *testing.T) {
	p := api.Safety{Allowed: square(), Rate: 2, Patience: 3}
	one, two := newUnit(t, p), newUnit(t, p)
	for i := range p.Allowed.Corners {
		p.Allowed.Corners[i] = api.Spot{X: 1000 + i}
	}
	wantTick(t, one, rect(5, 5, 6, 6), true, at(rect(5, 5, 6, 6)), 0)
	wantTick(t, two, rect(99, 99, 101, 101), true, at(rect(99, 99, 101, 101)), 1)
	wantTick(t, one, api.Rect{}, false, at(rect(3, 3, 8, 8)), 0)
	wantTick(t, two, rect(101, 99, 101, 101), true, ended(1, rect(101, 99, 101, 101)), 1)
	wantTick(t, one, api.Rect{}, false, at(rect(1, 1, 10, 10)), 0)
}

// TestUnitsByWord: P9.6; many ticks against the chapter, word by word.
func TestUnitsByWord(t *testing.T) {
	r := &sample{15}
	why := [3]int{}
	for range 5000 {
		p := r.plan(20)
		u := newUnit(t, p)
		w := &plainUnit{plan: p}
		for range 25 {
			q, there := r.rect(r.below(15), 15), r.yes(2)
			if r.yes(20) {
				q = rect(r.from(-50, 50), r.from(-50, 50), r.from(-50, 50), r.from(-50, 50))
			}
			v, e := w.tick(q, there)
			if got, gotE := u.Tick(q, there); got != v || gotE != e || u.Doubt() != w.doubt {
				t.Fatalf("%v, error %d, doubt %d; want %v, error %d, doubt %d", got, gotE, u.Doubt(), v, e, w.doubt)
			}
			if e == api.OK {
				why[v.Why]++
			}
			if r.yes(60) {
				wanted := api.OK
				if w.safed || w.ended {
					wanted = api.ErrState
				}
				if e := u.Safe(); e != wanted {
					t.Fatal(e)
				}
				w.safed = true
			}
		}
	}
	if why[0] < 5000 || why[1] < 500 || why[2] < 500 {
		t.Error(why)
	}
}

// TestQuiet: P9.9, P0.5; no flight is ended while its rect is surely inside.
func TestQuiet(t *testing.T) {
	r := &sample{16}
	quiet := 0
	for range 2000 {
		p := r.plan(20)
		p.Patience = 0
		u := newUnit(t, p)
		q := r.rect(6, 20)
		there := true
		for side, _ := safety.Side(p.Allowed, q); side == 1; side, _ = safety.Side(p.Allowed, q) {
			wantTick(t, u, q, there, at(q), 0)
			quiet++
			next := r.rect(6, 20)
			if there = !r.yes(2); !there {
				next = wider(q, p.Rate)
			}
			q = next
			if quiet%50 == 0 {
				break
			}
		}
	}
	if quiet < 500 {
		t.Error(quiet)
	}
}

// point is a true impact point, and how it moves in a tick.
type point struct{ spot, way api.Spot }

// move moves the point, for some time in one direction.
func (s *sample) move(p *point, rate int) {
	if s.yes(4) {
		p.way = s.spot(rate)
	}
	p.spot.X += p.way.X
	p.spot.Y += p.way.Y
}

// report returns a rect that contains the point, and whether it is there.
func (s *sample) report(p point, wide int) (api.Rect, bool) {
	x, y := p.spot.X, p.spot.Y
	return rect(x-s.below(wide), y-s.below(wide), x+s.below(wide), y+s.below(wide)), !s.yes(3)
}

// TestSwift: P9.10, P0.5; a unit has decided when the true point was outside at Patience + 1 ticks, one after the other, behind the first report.
func TestSwift(t *testing.T) {
	r := &sample{17}
	late, ends := 0, 0
	for range 5000 {
		p := r.plan(20)
		p.Rate++
		u := newUnit(t, p)
		truth := point{spot: p.Allowed.Corners[0]}
		out, reported := 0, false
		for range 40 {
			r.move(&truth, p.Rate)
			wide := 1 // without a doubt, until the point is outside
			if !safety.Contains(p.Allowed, truth.spot) {
				wide = 60
			}
			q, there := r.report(truth, wide)
			v, e := u.Tick(q, there)
			out++
			if !reported || safety.Contains(p.Allowed, truth.spot) {
				out = 0
			}
			reported = reported || there
			if e != api.OK || !v.Destruct && out > p.Patience {
				t.Fatalf("%v, error %d; outside at %d ticks, patience %d", v, e, out, p.Patience)
			}
			if v.Known && !holds(v.At, truth.spot) {
				t.Fatalf("%v is not in %v", truth.spot, v.At)
			}
			if v.Destruct {
				ends++
				late += out / (p.Patience + 1)
				break
			}
		}
	}
	if late < 500 || ends < 3000 {
		t.Error(late, ends)
	}
}

// TestSwiftFar: P9.10; likewise when the point leaves what a rect can tell.
func TestSwiftFar(t *testing.T) {
	p := api.Safety{Allowed: block(-ground, -ground, ground, ground), Rate: ground, Patience: 7}
	u := newUnit(t, p)
	wantTick(t, u, rect(ground-5, 0, ground, 0), true, at(rect(ground-5, 0, ground, 0)), 0)
	for i := range 7 {
		v, e := u.Tick(api.Rect{}, false)
		if v.Destruct || e != api.OK || u.Doubt() != i+1 {
			t.Fatal(v, e, u.Doubt())
		}
	}
	if v, e := u.Tick(api.Rect{}, false); v.Why != 2 || e != api.OK {
		t.Error(v, e)
	}
}

// barelyClear returns a plan whose reach is the greatest one for which it is clear; ok is false if there is none.
func (s *sample) barelyClear() (p api.Safety, ok bool) {
	p = s.plan(20)
	p.Rate++
	for p.Scatter = 100; p.Scatter >= 0; p.Scatter-- {
		if clear, _ := safety.Clear(p); clear {
			break
		}
	}
	return p, p.Scatter >= 0 && p.Scatter < 100
}

// towards returns a way from a place to another one, as far as the rate allows.
func towards(a, b api.Spot, rate int) api.Spot {
	return api.Spot{X: min(max(b.X-a.X, -rate), rate), Y: min(max(b.Y-a.Y, -rate), rate)}
}

// TestClearPlans: P9.11, P0.5; if a plan is clear, nothing within Scatter of the true point is in a protected zone when the unit decides, also if the point goes straight to a corner of one, and all is in doubt.
func TestClearPlans(t *testing.T) {
	r := &sample{18}
	ends, near := 0, 0
	for range 10000 {
		p, ok := r.barelyClear()
		if !ok {
			continue
		}
		u := newUnit(t, p)
		truth := point{spot: p.Allowed.Corners[r.below(len(p.Allowed.Corners))]}
		corners := p.Protected[r.below(len(p.Protected))].Corners
		goal, wide := corners[r.below(len(corners))], r.from(1, 60)
		for range 40 {
			truth.way = towards(truth.spot, goal, p.Rate)
			truth.spot.X += truth.way.X
			truth.spot.Y += truth.way.Y
			v, e := u.Tick(r.report(truth, wide))
			if e != api.OK {
				t.Fatal(e)
			}
			if v.Destruct {
				ends++
				near += nearness(t, p, truth.spot)
				break
			}
		}
	}
	if ends < 2000 || near < 100 {
		t.Error(ends, near)
	}
}

// nearness checks that nothing within Scatter of a place is in a protected zone, and returns in how many it would be if it went on for a tick or two.
func nearness(t *testing.T, p api.Safety, s api.Spot) int {
	t.Helper()
	near := 0
	spot := api.Rect{Low: s, High: s}
	for _, z := range p.Protected {
		if plainSide(z, wider(spot, p.Scatter)) != -1 {
			t.Fatalf("%v: debris of %v in %v", p, s, z)
		}
		if plainSide(z, wider(spot, p.Scatter+2*p.Rate)) != -1 {
			near++
		}
	}
	return near
}

// TestWild: P0.1; nothing panics, whatever the arguments are.
func TestWild(t *testing.T) {
	r := &sample{19}
	for range 5000 {
		z := api.Zone{Name: "w", Corners: spots(r.wild(), r.wild(), r.wild(), r.wild(), r.wild(), r.wild())}
		q := rect(r.wild(), r.wild(), r.wild(), r.wild())
		p := api.Safety{Allowed: []api.Zone{z, square()}[r.below(2)], Protected: []api.Zone{square(), z}[:r.below(3)], Towns: []api.Town{town(z, r.wild(), r.wild())}[:r.below(2)], Rate: r.wild(), Patience: r.wild(), Scatter: r.wild(), Hits: r.wild()}
		safety.CheckZone(z)
		safety.CheckPlan(p)
		safety.Contains(z, q.Low)
		safety.Contains(square(), q.Low)
		safety.Side(z, q)
		safety.Side(square(), q)
		safety.Apart(z, square(), r.wild())
		safety.Clear(p)
		safety.Risk(p, q)
		f := api.Falling{}
		for _, a := range fields(&f) {
			*a = api.Span{Lo: api.Num(r.wild()), Hi: api.Num(r.wild())}
		}
		safety.Impact(f)
		u, _ := safety.NewUnit(p)
		for range 3 {
			u.Tick(rect(r.wild(), r.wild(), r.wild(), r.wild()), r.yes(2))
		}
		u.Doubt()
		u.Safe()
	}
}
