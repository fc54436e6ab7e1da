package safety_test

import (
	"testing"

	"ullage/api"
	"ullage/safety"
)

// TestSides: P9.2; also the chapter's examples.
func TestSides(t *testing.T) {
	three, wide := zone(0, 0, 10, 0, 0, 10), block(-ground, -ground, ground, ground)
	for _, c := range []struct {
		z      api.Zone
		r      api.Rect
		wanted int
	}{
		{square(), rect(10, 10, 90, 100), 1}, {square(), rect(10, 10, 90, 101), 0}, {square(), rect(101, 0, 102, 5), -1},
		{three, rect(6, 6, 9, 9), -1}, {three, rect(5, 5, 9, 9), 0}, {three, rect(0, 0, 5, 5), 1}, {three, rect(0, 0, 5, 6), 0},
		{square(), rect(0, 0, 100, 100), 1}, {square(), rect(-1, 0, 100, 100), 0}, {square(), rect(-9, -9, 109, 109), 0}, {square(), rect(-9, 50, 109, 50), 0},
		{square(), rect(100, 100, 200, 200), 0}, {square(), rect(-5, 20, 0, 30), 0}, {square(), rect(20, -5, 30, -1), -1}, {square(), rect(-5, 20, -1, 30), -1}, {square(), rect(0, 101, 100, 200), -1},
		{square(), rect(50, 50, 50, 50), 1}, {square(), rect(100, 100, 100, 100), 1}, {square(), rect(101, 100, 101, 100), -1}, {square(), rect(100, 0, 100, 100), 1}, {square(), rect(100, 0, 100, 101), 0},
		{three, rect(6, 5, 6, 5), -1}, {three, rect(5, 5, 5, 5), 1}, {three, rect(4, 6, 7, 6), 0}, {three, rect(5, 6, 7, 6), -1}, {three, rect(6, -3, 6, 20), 0}, {three, rect(11, -3, 11, 20), -1},
		{wide, rect(-farthest, -farthest, farthest, farthest), 0}, {wide, rect(-farthest, ground+1, farthest, farthest), -1}, {wide, rect(-ground, -ground, ground, ground), 1},
		{zone(0, 0, 7, 1, 1, 7), rect(2, 0, 9, 0), -1}, {zone(0, 0, 7, 1, 1, 7), rect(0, 0, 9, 0), 0}, {zone(0, 0, 7, 1, 1, 7), rect(5, 4, 5, 4), -1},
	} {
		wantSide(t, c.z, c.r, c.wanted)
	}
}

// TestSideBetweenPlaces: P9.2; real places count: a rect that is a line, between two integers of which the zone has no place.
func TestSideBetweenPlaces(t *testing.T) {
	thin := zone(0, 0, 3, 1, 3, 2)
	wantSide(t, thin, rect(1, 0, 1, 1), 0)
	wantSide(t, thin, rect(2, 1, 2, 1), 1)
	wantSide(t, zone(0, 0, 10, 1, 5, 1), rect(1, -5, 1, 5), 0)
	wantSide(t, zone(0, 0, 5, 1, 9, 2), rect(1, -5, 1, 5), 0)
	wantSide(t, zone(-ground, -ground, ground, ground-1, ground, ground), rect(-1, -5, -1, 5), 0)
	wantSide(t, zone(-ground, -ground, ground, ground-1, ground, ground), rect(-1, -1, -1, -1), 1)
	wantSide(t, zone(-ground, -ground, ground, ground-1, ground, ground), rect(-1, 0, -1, 5), -1)
	wantSide(t, zone(-ground, -ground, ground, ground-1, ground, ground), rect(-1, -5, -1, -2), -1)
}

// TestSideErrors: P9.2.
func TestSideErrors(t *testing.T) {
	for _, r := range []api.Rect{
		rect(9, 9, 5, 5), rect(9, 5, 5, 9), rect(5, 9, 9, 5), rect(1, 0, 0, 0), rect(0, 1, 0, 0), rect(-farthest-1, 0, 0, 0), rect(0, -farthest-1, 0, 0), rect(0, 0, farthest+1, 0), rect(0, 0, 0, farthest+1),
		rect(least, least, greatest, greatest), rect(0, 0, greatest, 0), rect(farthest+1, 0, farthest+1, 0), rect(0, least, 0, 0),
	} {
		if n, e := safety.Side(square(), r); n != 0 || e != api.ErrArg {
			t.Errorf("side of %v: %d, error %d", r, n, e)
		}
		if n, e := safety.Risk(api.Safety{Allowed: square(), Hits: 9, Towns: []api.Town{town(square(), 9, 9)}}, r); n != 0 || e != api.ErrArg {
			t.Errorf("risk of %v: %d, error %d", r, n, e)
		}
		u := newUnit(t, api.Safety{Allowed: square(), Patience: 5})
		wantTick(t, u, api.Rect{}, false, api.Verdict{}, 1)
		wantNoTick(t, u, r, true, api.ErrArg)
		wantTick(t, u, api.Rect{}, false, api.Verdict{}, 2)
	}
	if n, e := safety.Side(api.Zone{}, rect(0, 0, 1, 1)); n != 0 || e != api.ErrArg {
		t.Error(n, e)
	}
}

// TestSidesByPlaces: P9.2; many rects against what they have in common with zones.
func TestSidesByPlaces(t *testing.T) {
	r := &sample{4}
	counts := map[int]int{}
	for range 6000 {
		z := r.zone(9)
		for range 4 {
			q := r.rect(r.below(12), 12)
			wanted := plainSide(z, q)
			counts[wanted]++
			wantSide(t, z, q, wanted)
		}
	}
	if counts[1] < 1000 || counts[0] < 1000 || counts[-1] < 1000 {
		t.Error(counts)
	}
}

// TestGreatSides: P9.2; likewise, with products of more than 60 bits.
func TestGreatSides(t *testing.T) {
	r := &sample{5}
	counts := map[int]int{}
	for range 1500 {
		z := r.zone(ground)
		size := []int{0, 10, ground / 4, 2 * farthest}[r.below(4)]
		q := r.rect(size, []int{ground, farthest}[r.below(2)])
		if r.yes(2) {
			a, b := z.Corners[0], z.Corners[1]
			x, y := (a.X+b.X)/2+r.from(-3, 3), (a.Y+b.Y)/2+r.from(-3, 3)
			q = rect(x, y, min(x+size, farthest), min(y+size, farthest))
		}
		wanted := plainSide(z, q)
		counts[wanted]++
		wantSide(t, z, q, wanted)
	}
	if counts[1] < 100 || counts[0] < 100 || counts[-1] < 100 {
		t.Error(counts)
	}
}

// TestSidesHold: P9.7; a zone contains each place of a rect with the side 1, and none of one with the side -1.
func TestSidesHold(t *testing.T) {
	r := &sample{6}
	counts := map[int]int{}
	for range 4000 {
		z, q := r.zone(9), r.rect(6, 11)
		side, _ := safety.Side(z, q)
		counts[side]++
		in, out := 0, 0
		for x := q.Low.X; x <= q.High.X; x++ {
			for y := q.Low.Y; y <= q.High.Y; y++ {
				if safety.Contains(z, api.Spot{X: x, Y: y}) {
					in++
				} else {
					out++
				}
			}
		}
		if side == 1 && out > 0 || side == -1 && in > 0 || side == 0 && out == 0 {
			t.Fatalf("%v and %v: side %d, %d places in, %d out", z.Corners, q, side, in, out)
		}
	}
	if counts[1] < 200 || counts[-1] < 200 {
		t.Error(counts)
	}
}

// TestApart: P9.3; also the chapter's example.
func TestApart(t *testing.T) {
	q := square()
	for _, c := range []struct {
		b api.Zone
		r int
		w bool
	}{
		{moved(q, 0, 110), 9, true}, {moved(q, 0, 110), 10, false}, {moved(q, 110, 0), 9, true}, {moved(q, 110, 0), 10, false}, {moved(q, 110, 130), 29, true}, {moved(q, 110, 130), 30, false}, {moved(q, 130, -110), 29, true}, {moved(q, 130, -110), 30, false},
		{q, 0, false}, {moved(q, 100, 100), 0, false}, {moved(q, 101, 0), 0, true}, {moved(q, 101, 0), 1, false}, {moved(q, 20, 20), 0, false}, {block(40, 40, 50, 50), 0, false}, {block(-9, -9, 109, 109), 0, false},
		{zone(101, 100, 200, 100, 200, 200), 0, true}, {zone(105, 105, 205, 105, 105, 205), 4, true}, {zone(105, 105, 205, 105, 105, 205), 5, false},
		{zone(110, 100, 110, 210, 0, 210), 0, true}, {zone(110, 100, 110, 210, 0, 210), 4, true}, {zone(110, 100, 110, 210, 0, 210), 5, false}, {zone(111, 100, 111, 210, 1, 210), 5, true},
	} {
		wantApart(t, q, c.b, c.r, c.w)
		wantApart(t, moved(q, -500, 700), moved(c.b, -500, 700), c.r, c.w)
	}
}

// TestApartSlanted: P9.3; zones that only a direction across slanted edges separates, by 2 r in its sum of sizes.
func TestApartSlanted(t *testing.T) {
	low, high := zone(0, 0, 100, 0, 0, 100), zone(100, 100, 20, 100, 100, 20)
	wantApart(t, low, high, 0, true)
	wantApart(t, low, high, 9, true)
	wantApart(t, low, high, 10, false)
	steep := zone(0, 0, 30, 90, 0, 90)
	wantApart(t, steep, zone(10, 0, 40, 0, 40, 90), 7, true)
	wantApart(t, steep, zone(10, 0, 40, 0, 40, 90), 8, false)
	wantApart(t, steep, zone(8, 0, 40, 0, 38, 90), 5, true)
	wantApart(t, steep, zone(8, 0, 40, 0, 38, 90), 6, false)
}

// TestApartErrors: P9.3; the errors, in order.
func TestApartErrors(t *testing.T) {
	bad := zone(0, 0, 0, 10, 10, 0)
	for _, r := range []int{-1, 1<<40 + 1, least, greatest} {
		if is, e := safety.Apart(square(), moved(square(), 500, 0), r); is || e != api.ErrRange {
			t.Error(r, is, e)
		}
	}
	for _, r := range []int{-1, 0, 1 << 40, 1<<40 + 1} {
		if is, e := safety.Apart(bad, square(), r); is || e != api.ErrArg {
			t.Error(r, is, e)
		}
		if is, e := safety.Apart(square(), bad, r); is || e != api.ErrArg {
			t.Error(r, is, e)
		}
	}
	wantApart(t, square(), moved(square(), 500, 0), 0, true)
	wantApart(t, square(), moved(square(), 500, 0), 1<<40, false)
}

// TestFarApart: P9.3; great zones and distances, whose products would leave 64 bits.
func TestFarApart(t *testing.T) {
	left, right := zone(-ground, -ground, 1-ground, -ground, 1-ground, ground), zone(ground-1, -ground, ground, -ground, ground, ground)
	corner, other := zone(-ground, -ground, 1-ground, -ground, -ground, 1-ground), zone(ground, ground, ground-1, ground, ground, ground-1)
	wantApart(t, left, right, farthest-3, true)
	wantApart(t, left, right, farthest-2, false)
	wantApart(t, corner, other, farthest-2, true)
	wantApart(t, corner, other, farthest-1, false)
	low, high := zone(-ground, -ground, ground, -ground, -ground, ground), zone(ground, ground, 3-ground, ground, ground, 3-ground)
	wantApart(t, low, high, 1, true)
	wantApart(t, low, high, 2, false)
	for bit := range 41 {
		for _, r := range []int{1 << bit, 1<<bit - 1, 1<<bit + 1} {
			if r > 1<<40 {
				continue
			}
			wantApart(t, left, right, r, r <= farthest-3)
			wantApart(t, corner, other, r, r <= farthest-2)
			wantApart(t, low, high, r, r <= 1)
		}
	}
}

// TestApartByPlaces: P9.3; many zones against what one of them, grown, has in common with the other one, and against the chapter's directions.
func TestApartByPlaces(t *testing.T) {
	r := &sample{7}
	counts := map[bool]int{}
	for range 3000 {
		far := []int{9, 40, ground}[r.below(3)]
		a, b := r.small(far/3, far), r.small(far/3, far)
		d := r.below(far)
		wanted := plainApart(a, b, d)
		counts[wanted]++
		if by := wordApart(a, b, d); by != wanted {
			t.Fatalf("%v and %v, %d: %v by word, %v by places", a.Corners, b.Corners, d, by, wanted)
		}
		wantApart(t, a, b, d, wanted)
	}
	if counts[true] < 500 || counts[false] < 500 {
		t.Error(counts)
	}
}

// TestApartEdge: P9.3; for the greatest distance at which zones are apart, found by halves, the next one is too much, by word.
func TestApartEdge(t *testing.T) {
	r := &sample{8}
	for range 300 {
		far := []int{30, 5000, ground}[r.below(3)]
		a, b := r.small(far/3, far), r.small(far/3, far)
		low, high := -1, 1<<40
		for high-low > 1 {
			middle := (low + high) / 2
			if is, _ := safety.Apart(a, b, middle); is {
				low = middle
			} else {
				high = middle
			}
		}
		for d := max(low-3, 0); d < high+3; d++ {
			wantApart(t, a, b, d, wordApart(a, b, d))
		}
	}
}

// TestApartHolds: P9.7; no place of a zone differs by at most r, in both numbers, from one of a zone that is more than r apart.
func TestApartHolds(t *testing.T) {
	r := &sample{9}
	counts := map[bool]int{}
	for range 1500 {
		a, b, d := r.small(4, 10), r.small(4, 10), r.below(5)
		apart, _ := safety.Apart(a, b, d)
		counts[apart]++
		near := false
		for x := -10; x <= 10; x++ {
			for y := -10; y <= 10; y++ {
				s := api.Spot{X: x, Y: y}
				side, _ := safety.Side(b, wider(api.Rect{Low: s, High: s}, d))
				near = near || safety.Contains(a, s) && side != -1
			}
		}
		if apart && near {
			t.Fatalf("%v and %v are not %d apart", a.Corners, b.Corners, d)
		}
	}
	if counts[true] < 200 || counts[false] < 200 {
		t.Error(counts)
	}
}
