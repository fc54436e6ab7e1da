package safety_test

import (
	"math/big"
	"testing"

	"ullage/api"
	"ullage/safety"
)

// TestImpacts: P9.4; also the chapter's example.
func TestImpacts(t *testing.T) {
	f := api.Falling{X: whole(1), VX: whole(1), VZ: whole(5), Pull: whole(10)}
	wantImpact(t, "example", f, rect(2000, 0, 2000, 0))
	f.H = whole(15)
	f.VY, f.Y = whole(2), whole(-3)
	f.VZ = whole(10)
	wantImpact(t, "3 s", f, rect(4000, 3000, 4000, 3000)) // 10 and the root of 100 + 300 are 30
	f.WX, f.WY = whole(-2), whole(1)
	wantImpact(t, "wind", f, rect(-2000, 6000, -2000, 6000))
	f.VZ = whole(-10)
	wantImpact(t, "downwards", f, rect(0, 0, 0, 0))
	f.VZ, f.H = whole(0), whole(0)
	wantImpact(t, "there", f, rect(1000, -3000, 1000, -3000))
	f.VZ = whole(-10)
	wantImpact(t, "there, downwards", f, rect(1000, -3000, 1000, -3000))
	wantImpact(t, "at rest", api.Falling{Pull: whole(1)}, api.Rect{})
	wantImpact(t, "dropped", api.Falling{H: whole(20), VX: whole(7), Pull: whole(10)}, rect(14000, 0, 14000, 0))
}

// TestImpactSpans: P9.4; spans, and times below 0, which do not count.
func TestImpactSpans(t *testing.T) {
	f := api.Falling{X: api.Span{Lo: num(-1, 0), Hi: num(2, 0)}, VX: api.Span{Lo: num(1, 0), Hi: num(3, 0)}, VY: api.Span{Lo: num(-1, 0), Hi: num(1, 0)}, VZ: api.Span{Lo: num(5, 0), Hi: num(10, 0)}, Pull: whole(10)}
	wantImpact(t, "1 to 2 s", f, rect(0, -2000, 8000, 2000))
	f.VZ = api.Span{Lo: num(-10, 0), Hi: num(10, 0)}
	wantImpact(t, "0 to 2 s", f, rect(-1000, -2000, 8000, 2000))
	f.VZ = api.Span{Lo: num(-10, 0), Hi: num(-5, 0)}
	wantImpact(t, "0 to a half", f, rect(-1000, -500, 3500, 500)) // 10 less 5, by the steps
	f.Pull.Hi = num(20, 0)
	wantImpact(t, "a greater pull", f, rect(-1000, -500, 3500, 500))
	f.WX = api.Span{Lo: num(-4, 0), Hi: num(-2, 0)}
	wantImpact(t, "wind", f, rect(-3000, -500, 3500, 500)) // 3 and -2, each times a half, and 0
}

// TestImpactRounding: P9.4; Low is rounded down, High up, also below 0.
func TestImpactRounding(t *testing.T) {
	for _, c := range []struct {
		n         api.Num
		low, high int
	}{
		{0, 0, 0}, {1, 0, 1}, {-1, -1, 0}, {num(1, 3), 125, 125}, {num(1, 3) + 1, 125, 126}, {num(1, 3) - 1, 124, 125}, {num(-1, 3), -125, -125}, {num(-1, 3) + 1, -125, -124}, {num(-1, 3) - 1, -126, -125},
		{num(-1, 0), -1000, -1000}, {num(-1, 0) - 1, -1001, -1000}, {num(1, 0) - 1, 999, 1000}, {num(1, 4), 62, 63}, {num(-1, 4), -63, -62}, {num(3, 4), 187, 188}, {num(-524288, 0), -524288000, -524288000},
	} {
		f := api.Falling{X: api.Span{Lo: c.n, Hi: c.n}, Pull: whole(1)}
		wantImpact(t, "x", f, rect(c.low, 0, c.high, 0))
		f.X, f.Y = f.Y, f.X
		wantImpact(t, "y", f, rect(0, c.low, 0, c.high))
	}
}

// TestImpactArguments: P9.4; what falls must be valid.
func TestImpactArguments(t *testing.T) {
	good := api.Falling{H: whole(1), Pull: whole(1)}
	for i := range fields(&good) {
		for _, bad := range []api.Span{{Lo: 2, Hi: 1}, {Lo: least, Hi: 5}, {Lo: least, Hi: least}, {Lo: api.MostNum, Hi: -api.MostNum}} {
			f := good
			*fields(&f)[i] = bad
			wantNoImpact(t, "a span that is not valid", f, api.ErrArg)
			// Also ahead of an error of a step: Pull cannot be doubled, or VZ squared.
			f.Pull = whole(1 << 30)
			if i == 6 {
				f.Pull, f.VZ = bad, whole(1<<30)
			}
			wantNoImpact(t, "a span that is not valid, ahead of a step", f, api.ErrArg)
		}
	}
	for _, bad := range []api.Span{{}, {Lo: 0, Hi: 5}, {Lo: -1, Hi: 5}, whole(-1)} {
		f := good
		f.Pull = bad
		wantNoImpact(t, "Pull", f, api.ErrArg)
	}
	for _, bad := range []api.Span{{Lo: -1, Hi: 5}, {Lo: -1, Hi: -1}, whole(-1)} {
		f := good
		f.H = bad
		wantNoImpact(t, "H", f, api.ErrArg)
	}
	f := good
	f.VX, f.H = whole(1<<30), api.Span{Lo: -1}
	wantNoImpact(t, "before all others", f, api.ErrArg)
	good.Pull = api.Span{Lo: 1, Hi: 5}
	good.H = api.Span{}
	wantImpact(t, "the least pull", good, api.Rect{})
}

// TestImpactSteps: P9.4; the errors of the steps, also where the place would be well within what is valid.
func TestImpactSteps(t *testing.T) {
	base := api.Falling{VZ: whole(5), Pull: whole(10)}
	for what, change := range map[string]func(f *api.Falling){
		"VZ, squared":        func(f *api.Falling) { f.VZ = whole(46341) },
		"Pull, doubled":      func(f *api.Falling) { f.Pull = whole(1 << 30) },
		"Pull, times H":      func(f *api.Falling) { f.H = whole(1 << 28) },
		"the sum":            func(f *api.Falling) { f.VZ, f.H = whole(40000), whole(100000000) },
		"the quotient":       func(f *api.Falling) { f.Pull = api.Span{Lo: 1, Hi: num(1, 0)} },
		"VX, times t":        func(f *api.Falling) { f.VZ, f.VX, f.WX = whole(10), whole(1<<30), whole(-1<<30) },
		"X, and that":        func(f *api.Falling) { f.X, f.VX, f.WX = whole(1<<30), whole(1<<30), whole(-1<<31+1) },
		"WX, times t":        func(f *api.Falling) { f.VZ, f.WX = whole(10), whole(1<<30) },
		"the wind's way, x":  func(f *api.Falling) { f.X, f.WX = whole(1<<30), whole(1<<30) },
		"VY, times t":        func(f *api.Falling) { f.VZ, f.VY, f.WY = whole(10), whole(1<<30), whole(-1<<30) },
		"Y, and that":        func(f *api.Falling) { f.Y, f.VY, f.WY = whole(1<<30), whole(1<<30), whole(-1<<31+1) },
		"WY, times t":        func(f *api.Falling) { f.VZ, f.WY = whole(10), whole(1<<30) },
		"the wind's way, y":  func(f *api.Falling) { f.Y, f.WY = whole(1<<30), whole(1<<30) },
		"all":                func(f *api.Falling) { f.VX, f.VY, f.VZ = whole(1<<30), whole(1<<30), whole(1<<30) },
		"X, far":             func(f *api.Falling) { f.X = whole(1 << 30) },
		"X at the very edge": func(f *api.Falling) { f.X = api.Span{Lo: api.MostNum - api.One, Hi: api.MostNum - api.One} },
		"Y at the very edge": func(f *api.Falling) { f.Y = api.Span{Lo: -api.MostNum, Hi: 0} },
	} {
		f := base
		change(&f)
		wantNoImpact(t, what, f, api.ErrRange)
	}
	wantImpact(t, "none", base, api.Rect{})
}

// TestImpactRange: P9.4; the numbers of the rect are at most 2^29 in size.
func TestImpactRange(t *testing.T) {
	// 2^29 m are 536870 km and 912 m.
	edge := num(536870, 0) + api.One*912/1000
	for _, c := range []struct {
		a    api.Span
		fits bool
	}{
		{api.Span{Lo: edge, Hi: edge}, true}, {api.Span{Lo: edge, Hi: edge + 1}, false}, {api.Span{Lo: 0, Hi: edge + 1}, false}, {api.Span{Lo: -edge, Hi: edge}, true}, {api.Span{Lo: -edge - 1, Hi: 0}, false}, {api.Span{Lo: -edge - 1, Hi: edge + 1}, false},
		{whole(-600000), false}, {whole(600000), false},
	} {
		for _, f := range []api.Falling{{X: c.a, Pull: whole(1)}, {Y: c.a, Pull: whole(1)}} {
			if r, e := safety.Impact(f); c.fits != (e == api.OK) || !c.fits && (e != api.ErrRange || r != api.Rect{}) {
				t.Errorf("%v: %v, error %d", c.a, r, e)
			}
		}
	}
	wantImpact(t, "edge", api.Falling{X: api.Span{Lo: -edge, Hi: edge}, Pull: whole(1)}, rect(-farthest, 0, farthest, 0))
}

// falling returns something that falls, whose numbers have at most so many bits.
func (s *sample) falling(bits int) api.Falling {
	var f api.Falling
	for _, a := range fields(&f) {
		width := 1 + s.below(bits)
		m := int64(s.next() & (1<<width - 1))
		n := int64(s.next() & (1<<(1+s.below(bits)) - 1))
		if s.yes(2) {
			m = -m
		}
		a.Lo, a.Hi = api.Num(m), api.Num(min(m, int64(api.MostNum)-n)+n)
		if s.yes(4) {
			a.Hi = a.Lo
		}
	}
	f.H.Lo, f.H.Hi = max(f.H.Lo, 0), max(f.H.Hi, 0)
	f.Pull.Lo, f.Pull.Hi = max(f.Pull.Lo, 1), max(f.Pull.Hi, 1)
	return f
}

// TestImpactsByWord: P9.4; many things that fall, against the chapter's steps.
func TestImpactsByWord(t *testing.T) {
	r := &sample{12}
	counts := map[api.Errno]int{}
	for range 20000 {
		f := r.falling(r.from(30, 62))
		if !r.yes(3) {
			n := r.from(26, 38)
			f.Pull = api.Span{Lo: 1 << n, Hi: 1<<n + f.Pull.Hi>>30}
		}
		wanted, e := plainImpact(f)
		counts[e]++
		if e == api.OK {
			wantImpact(t, "by word", f, wanted)
		} else {
			wantNoImpact(t, "by word", f, e)
		}
	}
	if counts[api.OK] < 3000 || counts[api.ErrRange] < 3000 {
		t.Error(counts)
	}
}

// around returns a span with a number, at most so wide, sometimes a point.
func (s *sample) around(n api.Num, wide int) api.Span {
	if s.yes(3) {
		return api.Span{Lo: n, Hi: n}
	}
	return api.Span{Lo: n - api.Num(s.below(wide)), Hi: n + api.Num(s.below(wide))}
}

// TestImpactHolds: P9.8, P0.2; places where something hits the ground by the parabola's law, for numbers for which these are exact, are in the rect.
func TestImpactHolds(t *testing.T) {
	r := &sample{13}
	landed, later := 0, 0
	for range 20000 {
		// After t s, in parts of 2^-4, it is at the height H + VZ t - Pull t t / 2 = 0.
		time, pull, vz := r.below(200), r.from(1, 1<<12), r.from(-1<<12, 1<<13)
		h := pull*time*time - 2*vz*16*time // in parts of 2^-17
		if h < 0 || h>>17 > 1<<20 {
			continue
		}
		if h == 0 && vz > 0 && time == 0 {
			continue // it begins there, and lands later
		}
		n := [6]int{r.from(-1<<12, 1<<12), r.from(-1<<12, 1<<12), r.from(-1<<12, 1<<12), r.from(-1<<10, 1<<10), r.from(-1<<12, 1<<12), r.from(-1<<10, 1<<10)}
		wide := []int{1, 1 << 10, 1 << 24}[r.below(3)]
		f := api.Falling{X: r.around(num(n[0], 4), wide), Y: r.around(num(n[1], 4), wide), H: r.around(num(h, 17), wide), VX: r.around(num(n[2], 8), wide), VY: r.around(num(n[4], 8), wide), VZ: r.around(num(vz, 8), wide), Pull: r.around(num(pull, 8), min(wide, pull<<24)), WX: r.around(num(n[3], 8), wide), WY: r.around(num(n[5], 8), wide)}
		f.H.Lo = max(f.H.Lo, 0)
		got, e := safety.Impact(f)
		if e != api.OK {
			continue
		}
		landed++
		if time > 16 {
			later++
		}
		x := num(n[0]*256+(n[2]+n[3])*time, 12)
		y := num(n[1]*256+(n[4]+n[5])*time, 12)
		if !isFrom(metres(x), got.Low.X, got.High.X) || !isFrom(metres(y), got.Low.Y, got.High.Y) {
			t.Fatalf("%v: %v, %v not in %v", f, metres(x), metres(y), got)
		}
	}
	if landed < 5000 || later < 3000 {
		t.Error(landed, later)
	}
}

// isFrom reports whether a quotient is from low to high.
func isFrom(q *big.Rat, low, high int) bool {
	return q.Cmp(big.NewRat(int64(low), 1)) >= 0 && q.Cmp(big.NewRat(int64(high), 1)) <= 0
}

// TestImpactsGrow: P9.8; what is known less well has a rect that contains the one of what is known better.
func TestImpactsGrow(t *testing.T) {
	r := &sample{14}
	held := 0
	for range 5000 {
		f := r.falling(36)
		g := f
		for i, a := range fields(&g) {
			if r.yes(2) && i != 6 {
				a.Lo, a.Hi = a.Lo-api.Num(r.below(1<<30)), a.Hi+api.Num(r.below(1<<30))
			}
		}
		g.H.Lo = max(g.H.Lo, 0)
		g.Pull.Hi += api.Num(r.below(1 << 30))
		small, e := safety.Impact(f)
		great, e2 := safety.Impact(g)
		if e != api.OK || e2 != api.OK {
			continue
		}
		held++
		if !holds(great, small.Low) || !holds(great, small.High) {
			t.Fatalf("%v: %v; %v: %v", f, small, g, great)
		}
	}
	if held < 1000 {
		t.Error(held)
	}
}
