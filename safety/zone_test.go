package safety_test

import (
	"slices"
	"strings"
	"testing"

	"ullage/api"
	"ullage/safety"
)

// TestZoneNames: P9.1; a name has from 1 to 32 bytes.
func TestZoneNames(t *testing.T) {
	for name, wanted := range map[string]bool{
		"": false, "a": true, "\x00": true, strings.Repeat("a", 32): true, strings.Repeat("a", 33): false, strings.Repeat("é", 16): true, strings.Repeat("é", 17): false, strings.Repeat("a", 1000): false,
	} {
		z := square()
		z.Name = name
		wantZone(t, name, z, wanted)
	}
}

// TestZoneCorners: P9.1; a zone has from 3 to 16 corners.
func TestZoneCorners(t *testing.T) {
	for n := range 20 {
		wantZone(t, "corners", polygon(n), n >= 3 && n <= 16)
	}
	wantZone(t, "no corners", api.Zone{Name: "z", Corners: []api.Spot{}}, false)
	wantZone(t, "many corners", api.Zone{Name: "z", Corners: make([]api.Spot, 1000)}, false)
}

// TestZoneNumbers: P9.1; all numbers are from -2^28 to 2^28.
func TestZoneNumbers(t *testing.T) {
	wantZone(t, "greatest", block(-ground, -ground, ground, ground), true)
	wantZone(t, "thin", zone(-ground, -ground, ground, ground-1, ground, ground), true)
	wantZone(t, "a line of the greatest size", zone(-ground, -ground, 0, 0, ground, ground), false)
	for _, n := range []int{ground + 1, -ground - 1, farthest, 1 << 32, 1 << 62, greatest, least, least + 1} {
		for i := range 8 {
			z := block(-ground, -ground, ground, ground)
			if i%2 == 0 {
				z.Corners[i/2].X = n
			} else {
				z.Corners[i/2].Y = n
			}
			wantZone(t, "a number that is too great", z, false)
		}
	}
	wantZone(t, "numbers that leave 64 bits", zone(least, least, greatest, least, greatest, greatest, least, greatest), false)
}

// TestZoneTurns: P9.1; a zone turns left at each corner, and goes round once.
func TestZoneTurns(t *testing.T) {
	for what, c := range map[string]struct {
		corners []api.Spot
		wanted  bool
	}{
		"triangle":            {spots(0, 0, 10, 0, 0, 10), true},
		"from another corner": {spots(0, 10, 0, 0, 10, 0), true},
		"turned round":        {spots(0, 0, 0, 10, 10, 0), false},
		"square":              {spots(0, 0, 9, 0, 9, 9, 0, 9), true},
		"square clockwise":    {spots(0, 0, 0, 9, 9, 9, 9, 0), false},
		"diamond":             {spots(0, -5, 5, 0, 0, 5, -5, 0), true},
		"least":               {spots(0, 0, 1, 0, 0, 1), true},
		"straight":            {spots(0, 0, 5, 0, 10, 0, 0, 10), false},
		"straight at last":    {spots(5, 0, 10, 0, 0, 10, 0, 0), false},
		"straight at the end": {spots(10, 0, 0, 10, 0, 0, 5, 0), false},
		"dent":                {spots(0, 0, 10, 0, 3, 3, 0, 10), false},
		"bow":                 {spots(0, 0, 10, 0, 0, 10, 10, 10), false},
		"line":                {spots(0, 0, 10, 0, 0, 0), false},
		"there and back":      {spots(0, 0, 10, 0, 20, 0, 10, 0), false},
		"a place":             {spots(3, 3, 3, 3, 3, 3), false},
		"a corner twice":      {spots(0, 0, 0, 0, 10, 0, 0, 10), false},
		"the first at last":   {spots(0, 0, 10, 0, 0, 10, 0, 0), false},
		"twice round":         {spots(0, 0, 9, 0, 9, 9, 0, 9, 0, 0, 9, 0, 9, 9, 0, 9), false},
		"a triangle twice":    {spots(0, 0, 10, 0, 0, 10, 0, 0, 10, 0, 0, 10), false},
		"a star":              {spots(0, 10, -6, -8, 10, 3, -10, 3, 6, -8), false},
		"a star of 7":         {spots(0, 100, -97, -22, 43, -90, 78, 62, -78, 62, -43, -90, 97, -22), false},
		"round three times":   {spots(0, 0, 1, 0, 0, 1, 0, 0, 1, 0, 0, 1, 0, 0, 1, 0, 0, 1), false},
	} {
		wantZone(t, what, api.Zone{Name: "z", Corners: c.corners}, c.wanted)
	}
}

// TestStars: P9.1; stars that turn left at each corner go round more than once.
func TestStars(t *testing.T) {
	z := polygon(11)
	for step := 1; step < 11; step++ {
		var l []api.Spot
		for i := range 11 {
			l = append(l, z.Corners[i*step%11])
		}
		wantZone(t, "star", api.Zone{Name: "z", Corners: l}, step == 1)
	}
}

// TestZonesByPlaces: P9.1; many lists of corners against what is convex, most of them nearly zones.
func TestZonesByPlaces(t *testing.T) {
	r := &sample{1}
	counts := map[bool]int{}
	for i := range 30000 {
		z := r.zone(4)
		switch r.below(4) {
		case 0:
			z.Corners[r.below(len(z.Corners))] = r.spot(4)
		case 1:
			l := make([]api.Spot, r.from(3, 5))
			for j := range l {
				l[j] = r.spot(2)
			}
			z.Corners = l
		case 2:
			a, b := r.below(len(z.Corners)), r.below(len(z.Corners))
			z.Corners[a], z.Corners[b] = z.Corners[b], z.Corners[a]
		}
		wanted := isConvex(z.Corners)
		counts[wanted]++
		if safety.CheckZone(z) != wanted {
			t.Fatalf("%d: %v is not %v", i, z.Corners, wanted)
		}
	}
	if counts[true] < 5000 || counts[false] < 5000 {
		t.Error(counts)
	}
}

// TestGreatZones: P9.1; zones whose products have nearly 60 bits.
func TestGreatZones(t *testing.T) {
	r := &sample{2}
	counts := map[bool]int{}
	for i := range 3000 {
		z := r.zone(ground)
		j := r.below(len(z.Corners))
		a, b := z.Corners[j], z.Corners[(j+2)%len(z.Corners)]
		if r.yes(2) {
			z.Corners[(j+1)%len(z.Corners)] = api.Spot{X: (a.X + b.X) / 2, Y: (a.Y + b.Y) / 2}
		}
		wanted := isConvex(z.Corners)
		counts[wanted]++
		if safety.CheckZone(z) != wanted {
			t.Fatalf("%d: %v is not %v", i, z.Corners, wanted)
		}
	}
	if counts[true] < 500 || counts[false] < 500 {
		t.Error(counts)
	}
}

// TestContains: P9.1; a zone contains its edges and corners.
func TestContains(t *testing.T) {
	three := zone(0, 0, 10, 0, 0, 10)
	wide := block(-ground, -ground, ground, ground)
	for _, c := range []struct {
		z      api.Zone
		x, y   int
		wanted bool
	}{
		{three, 5, 5, true}, {three, 6, 5, false}, {three, 0, 0, true}, {three, 10, 0, true}, {three, 0, 10, true}, {three, 3, 3, true}, {three, 5, 0, true}, {three, 0, 7, true},
		{three, -1, 5, false}, {three, 5, -1, false}, {three, 11, 0, false}, {three, 0, 11, false}, {three, -1, -1, false}, {three, 20, -10, false},
		{wide, ground, ground, true}, {wide, ground + 1, 0, false}, {wide, 0, -ground - 1, false}, {wide, farthest, farthest, false}, {wide, -farthest, 0, false},
	} {
		if safety.Contains(c.z, api.Spot{X: c.x, Y: c.y}) != c.wanted {
			t.Errorf("%v contains (%d, %d): not %v", c.z.Corners, c.x, c.y, c.wanted)
		}
	}
}

// TestContainsRefused: P9.1; false for zones that are not valid, and for places that are too far.
func TestContainsRefused(t *testing.T) {
	for _, n := range []int{farthest + 1, -farthest - 1, 1 << 40, 1 << 62, greatest, least, least + 1} {
		for _, s := range spots(n, 5, 5, n, n, n) {
			if safety.Contains(block(-ground, -ground, ground, ground), s) || safety.Contains(square(), s) {
				t.Errorf("%v is contained", s)
			}
		}
	}
	z := square()
	z.Name = ""
	if safety.Contains(z, api.Spot{X: 5, Y: 5}) || safety.Contains(api.Zone{}, api.Spot{}) || safety.Contains(zone(0, 0, 0, 10, 10, 0), api.Spot{}) {
		t.Error("a place in what is no zone")
	}
}

// TestContainsByPlaces: P9.1; many zones and places, some of them as far as can be.
func TestContainsByPlaces(t *testing.T) {
	r := &sample{3}
	counts := map[bool]int{}
	for range 2000 {
		far := []int{3, 20, ground}[r.below(3)]
		z := r.zone(far)
		for range 10 {
			s := r.spot(far * r.from(1, 2))
			wanted := encloses(z.Corners, s)
			counts[wanted]++
			if safety.Contains(z, s) != wanted {
				t.Fatalf("%v contains %v: not %v", z.Corners, s, wanted)
			}
		}
	}
	if counts[true] < 2000 || counts[false] < 2000 {
		t.Error(counts)
	}
}

// TestPlans: P9.1; the ranges of a plan.
func TestPlans(t *testing.T) {
	full := func() api.Safety {
		p := api.Safety{Allowed: square(), Rate: ground, Patience: 1000, Scatter: ground, Hits: ground}
		for range 16 {
			p.Protected = append(p.Protected, square())
			p.Towns = append(p.Towns, town(square(), 1<<30, 1<<30))
		}
		return p
	}
	for what, c := range map[string]struct {
		change func(p *api.Safety)
		wanted bool
	}{
		"full": {func(p *api.Safety) {}, true}, "least": {func(p *api.Safety) { *p = api.Safety{Allowed: square()} }, true}, "nothing": {func(p *api.Safety) { *p = api.Safety{} }, false},
		"empty lists":    {func(p *api.Safety) { p.Protected, p.Towns = []api.Zone{}, []api.Town{} }, true},
		"only protected": {func(p *api.Safety) { p.Towns = nil }, true}, "only towns": {func(p *api.Safety) { p.Protected = nil }, true},
		"17 protected":       {func(p *api.Safety) { p.Protected = append(p.Protected, square()) }, false},
		"17 towns":           {func(p *api.Safety) { p.Towns = append(p.Towns, p.Towns[0]) }, false},
		"allowed turned":     {func(p *api.Safety) { slices.Reverse(p.Allowed.Corners) }, false},
		"a protected turned": {func(p *api.Safety) { slices.Reverse(p.Protected[15].Corners) }, false},
		"a town turned":      {func(p *api.Safety) { slices.Reverse(p.Towns[15].Zone.Corners) }, false},
		"nobody":             {func(p *api.Safety) { p.Towns[3].People = 0 }, true}, "People -1": {func(p *api.Safety) { p.Towns[3].People = -1 }, false},
		"People above": {func(p *api.Safety) { p.Towns[15].People++ }, false}, "greatest People": {func(p *api.Safety) { p.Towns[0].People = greatest }, false},
		"Area 1": {func(p *api.Safety) { p.Towns[3].Area = 1 }, true}, "Area 0": {func(p *api.Safety) { p.Towns[3].Area = 0 }, false}, "Area -1": {func(p *api.Safety) { p.Towns[3].Area = -1 }, false},
		"Area above": {func(p *api.Safety) { p.Towns[15].Area++ }, false}, "least Area": {func(p *api.Safety) { p.Towns[0].Area = least }, false},
		"Rate -1": {func(p *api.Safety) { p.Rate = -1 }, false}, "Rate above": {func(p *api.Safety) { p.Rate++ }, false}, "Rate 0": {func(p *api.Safety) { p.Rate = 0 }, true},
		"Scatter -1": {func(p *api.Safety) { p.Scatter = -1 }, false}, "Scatter above": {func(p *api.Safety) { p.Scatter++ }, false}, "Scatter 0": {func(p *api.Safety) { p.Scatter = 0 }, true},
		"Hits -1": {func(p *api.Safety) { p.Hits = -1 }, false}, "Hits above": {func(p *api.Safety) { p.Hits++ }, false}, "Hits 0": {func(p *api.Safety) { p.Hits = 0 }, true},
		"Patience -1": {func(p *api.Safety) { p.Patience = -1 }, false}, "Patience above": {func(p *api.Safety) { p.Patience++ }, false}, "Patience 0": {func(p *api.Safety) { p.Patience = 0 }, true},
		"greatest Rate": {func(p *api.Safety) { p.Rate = greatest }, false}, "least Patience": {func(p *api.Safety) { p.Patience = least }, false},
	} {
		p := full()
		c.change(&p)
		wantPlan(t, what, p, c.wanted)
	}
}

// wantPlan checks whether a plan is valid, also for all functions that need one.
func wantPlan(t *testing.T, what string, p api.Safety, wanted bool) {
	t.Helper()
	if safety.CheckPlan(p) != wanted {
		t.Errorf("%s: not %v", what, wanted)
	}
	e := api.ErrArg
	if wanted {
		e = api.OK
	}
	if is, got := safety.Clear(p); got != e || is && !wanted {
		t.Errorf("%s: Clear: %v, error %d", what, is, got)
	}
	if n, got := safety.Risk(p, rect(0, 0, 1, 1)); got != e || n != 0 && !wanted {
		t.Errorf("%s: Risk: %d, error %d", what, n, got)
	}
	if u, got := safety.NewUnit(p); got != e || (u != nil) != wanted {
		t.Errorf("%s: NewUnit: error %d", what, got)
	}
}
