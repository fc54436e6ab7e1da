package safety_test

import (
	"testing"

	"ullage/api"
	"ullage/safety"
)

// TestClear: P9.3; the reach is Rate (Patience + 1) + Scatter.
func TestClear(t *testing.T) {
	p := api.Safety{Allowed: square(), Rate: 7, Patience: 4, Scatter: 3}
	wantClear(t, p, true)
	for _, c := range []struct {
		zones  []api.Zone
		wanted bool
	}{
		{[]api.Zone{}, true}, {[]api.Zone{moved(square(), 139, 0)}, true}, {[]api.Zone{moved(square(), 138, 0)}, false}, {[]api.Zone{moved(square(), 0, -139)}, true}, {[]api.Zone{moved(square(), 0, -138)}, false},
		{[]api.Zone{square()}, false}, {[]api.Zone{moved(square(), 500, 0), moved(square(), 138, 0)}, false}, {[]api.Zone{moved(square(), 138, 0), moved(square(), 500, 0)}, false}, {[]api.Zone{moved(square(), 500, 0), moved(square(), 139, 0)}, true},
	} {
		p.Protected = c.zones
		wantClear(t, p, c.wanted)
	}
	p.Protected = []api.Zone{moved(square(), 139, 0)}
	p.Towns = []api.Town{town(square(), 9, 9)}
	wantClear(t, p, true)
	for _, change := range []func(p *api.Safety){func(p *api.Safety) { p.Rate++ }, func(p *api.Safety) { p.Patience++ }, func(p *api.Safety) { p.Scatter++ }} {
		more := p
		change(&more)
		wantClear(t, more, false)
	}
	p.Rate, p.Patience, p.Scatter = 38, 0, 0
	wantClear(t, p, true)
	p.Rate = 39
	wantClear(t, p, false)
	p.Rate, p.Patience = 0, 1000
	wantClear(t, p, true)
}

// TestClearFar: P9.3; the greatest reach.
func TestClearFar(t *testing.T) {
	corner, other := zone(-ground, -ground, 1-ground, -ground, -ground, 1-ground), zone(ground, ground, ground-1, ground, ground, ground-1)
	p := api.Safety{Allowed: corner, Protected: []api.Zone{other}, Rate: ground, Patience: 1000, Scatter: ground}
	wantClear(t, p, false)
	p.Patience = 1
	wantClear(t, p, false)
	p.Patience = 0
	wantClear(t, p, false)
	p.Scatter -= 2
	wantClear(t, p, true)
	p.Scatter++
	wantClear(t, p, false)
}

// TestClearByWord: P9.3; many plans.
func TestClearByWord(t *testing.T) {
	r := &sample{10}
	counts := map[bool]int{}
	for range 2000 {
		p := r.plan(20)
		wanted := true
		for _, z := range p.Protected {
			wanted = wanted && plainApart(p.Allowed, z, p.Rate*(p.Patience+1)+p.Scatter)
		}
		counts[wanted]++
		wantClear(t, p, wanted)
	}
	if counts[true] < 300 || counts[false] < 300 {
		t.Error(counts)
	}
}

// TestRisk: P9.5; also the chapter's example.
func TestRisk(t *testing.T) {
	p := api.Safety{Allowed: square(), Scatter: 5, Hits: 3, Towns: []api.Town{town(square(), 1000, 400)}}
	for _, c := range []struct {
		r      api.Rect
		wanted int
	}{
		{rect(0, 0, 1, 1), 8}, {rect(50, 50, 50, 50), 8}, {rect(-1000, -1000, 1000, 1000), 8}, {rect(105, 105, 200, 200), 8}, {rect(106, 0, 200, 200), 0}, {rect(0, 106, 0, 106), 0}, {rect(-9, -9, -5, -5), 8}, {rect(-9, -9, -5, -6), 0},
		{rect(-farthest, -farthest, farthest, farthest), 8}, {rect(farthest, farthest, farthest, farthest), 0},
	} {
		wantRisk(t, p, c.r, c.wanted)
	}
	p.Towns = nil
	wantRisk(t, p, rect(0, 0, 1, 1), 0)
}

// TestRiskTerms: P9.5; each town's term is rounded up, and is at most its people.
func TestRiskTerms(t *testing.T) {
	for _, c := range []struct{ people, hits, area, wanted int }{
		{1000, 3, 400, 8}, {1000, 2, 400, 5}, {1000, 0, 400, 0}, {0, 9, 5, 0}, {7, 1, 1 << 30, 1}, {7, 5, 5, 7}, {7, 6, 5, 7}, {7, 4, 5, 6}, {7, 1000, 1, 7}, {1, 1, 2, 1}, {8, 1, 4, 2}, {9, 1, 4, 3},
		{1 << 30, ground, 1, 1 << 30}, {1 << 30, ground, 1 << 30, ground}, {1 << 30, ground, ground + 1, 1<<30 - 3}, {1<<30 - 1, ground, 1 << 30, ground}, {1 << 30, 1, 1 << 30, 1},
	} {
		p := api.Safety{Allowed: square(), Hits: c.hits, Towns: []api.Town{town(square(), c.people, c.area)}}
		wantRisk(t, p, rect(0, 0, 1, 1), c.wanted)
		p.Towns = append(p.Towns, town(moved(square(), 1000, 0), 5000, 1), town(moved(square(), 100, 100), c.people, c.area))
		wantRisk(t, p, rect(0, 0, 100, 100), 2*c.wanted)
	}
	p := api.Safety{Allowed: square(), Hits: ground}
	for range 16 {
		p.Towns = append(p.Towns, town(square(), 1<<30, 1))
	}
	wantRisk(t, p, rect(0, 0, 1, 1), 1<<34)
}

// TestRiskFar: P9.5; a rect that is grown beyond what is valid.
func TestRiskFar(t *testing.T) {
	wide := block(-ground, -ground, ground, ground)
	p := api.Safety{Allowed: square(), Scatter: ground, Hits: 1, Towns: []api.Town{town(wide, 9, 1)}}
	for _, c := range []struct {
		r      api.Rect
		wanted int
	}{
		{rect(farthest, farthest, farthest, farthest), 9}, {rect(-farthest, -farthest, -farthest, -farthest), 9}, {rect(-farthest, farthest, farthest, farthest), 9}, {rect(-farthest, -farthest, farthest, farthest), 9},
	} {
		wantRisk(t, p, c.r, c.wanted)
	}
	p.Towns[0].Zone.Corners = spots(-ground, -ground, ground-1, -ground, ground, ground-1)
	wantRisk(t, p, rect(-farthest, farthest, farthest, farthest), 0)
	wantRisk(t, p, rect(farthest, 0, farthest, farthest), 9)
	wantRisk(t, p, rect(-ground, ground, -ground, ground), 0)
	p.Scatter--
	wantRisk(t, p, rect(farthest, ground, farthest, farthest), 0)
}

// TestRiskErrors: P9.5; a plan and a rect that are not valid.
func TestRiskErrors(t *testing.T) {
	p := api.Safety{Allowed: square(), Hits: 1, Towns: []api.Town{town(square(), 9, 1)}}
	if n, e := safety.Risk(p, rect(1, 0, 0, 0)); n != 0 || e != api.ErrArg {
		t.Error(n, e)
	}
	p.Patience = -1
	if n, e := safety.Risk(p, rect(0, 0, 1, 1)); n != 0 || e != api.ErrArg {
		t.Error(n, e)
	}
}

// TestRisksByWord: P9.5, P9.12; many risks; a rect within another one has no greater risk.
func TestRisksByWord(t *testing.T) {
	r := &sample{11}
	some, more := 0, 0
	for range 4000 {
		p := r.plan(20)
		inner := r.rect(10, 40)
		outer := inner
		outer.Low.X -= r.below(9)
		outer.Low.Y -= r.below(9)
		outer.High.X += r.below(9)
		outer.High.Y += r.below(9)
		small, _ := safety.Risk(p, inner)
		great, _ := safety.Risk(p, outer)
		wantRisk(t, p, inner, plainRisk(p, inner))
		wantRisk(t, p, outer, plainRisk(p, outer))
		if small > great {
			t.Fatalf("risk %d of %v, %d of %v", small, inner, great, outer)
		}
		if small > 0 {
			some++
		}
		if small < great {
			more++
		}
	}
	if some < 500 || more < 100 {
		t.Error(some, more)
	}
}
