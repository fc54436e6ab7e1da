package safety_test

import (
	"math/big"

	"ullage/api"
	"ullage/span"
)

// turn returns 1 if c lies to the left of the way from a to b, -1 if to the right, 0 if on its line.
func turn(a, b, c api.Spot) int {
	part := func(x, y int) *big.Int { return new(big.Int).Mul(big.NewInt(int64(x)), big.NewInt(int64(y))) }
	return part(b.X-a.X, c.Y-a.Y).Cmp(part(b.Y-a.Y, c.X-a.X))
}

// isConvex reports whether each corner but its own two lies strictly to the left of each edge. This is just so for the corners of a convex polygon, in their order, anticlockwise.
func isConvex(l []api.Spot) bool {
	for i := range l {
		next := (i + 1) % len(l)
		for j := range l {
			if j != i && j != next && turn(l[i], l[next], l[j]) <= 0 {
				return false
			}
		}
	}
	return len(l) >= 3
}

// encloses reports whether a convex polygon contains a place.
func encloses(l []api.Spot, s api.Spot) bool {
	for i := range l {
		if turn(l[i], l[(i+1)%len(l)], s) < 0 {
			return false
		}
	}
	return true
}

// isBetween reports whether a place on the line through a and b is between them.
func isBetween(a, b, s api.Spot) bool {
	return min(a.X, b.X) <= s.X && s.X <= max(a.X, b.X) && min(a.Y, b.Y) <= s.Y && s.Y <= max(a.Y, b.Y)
}

// cross reports whether two lines, from a to b and from c to d, have a real place in common.
func cross(a, b, c, d api.Spot) bool {
	if turn(a, b, c)*turn(a, b, d) < 0 && turn(c, d, a)*turn(c, d, b) < 0 {
		return true
	}
	return turn(a, b, c) == 0 && isBetween(a, b, c) || turn(a, b, d) == 0 && isBetween(a, b, d) || turn(c, d, a) == 0 && isBetween(c, d, a) || turn(c, d, b) == 0 && isBetween(c, d, b)
}

// meet reports whether two convex areas have a real place in common: a corner of the one is in the other one, or edges cross. Whether a place is in b is asked of inB, as b may be a line or a place.
func meet(a, b []api.Spot, inB func(s api.Spot) bool) bool {
	for _, s := range a {
		if inB(s) {
			return true
		}
	}
	for _, s := range b {
		if encloses(a, s) {
			return true
		}
	}
	for i := range a {
		for j := range b {
			if cross(a[i], a[(i+1)%len(a)], b[j], b[(j+1)%len(b)]) {
				return true
			}
		}
	}
	return false
}

// cornersOf returns the corners of a rect.
func cornersOf(r api.Rect) []api.Spot {
	return spots(r.Low.X, r.Low.Y, r.High.X, r.Low.Y, r.High.X, r.High.Y, r.Low.X, r.High.Y)
}

// plainSide returns the side of a rect, by what zone and rect have in common.
func plainSide(z api.Zone, r api.Rect) int {
	corners := cornersOf(r)
	if !meet(z.Corners, corners, func(s api.Spot) bool { return holds(r, s) }) {
		return -1
	}
	for _, c := range corners {
		if !encloses(z.Corners, c) {
			return 0
		}
	}
	return 1
}

// plainApart reports whether zones are more than r apart: whether one of them, grown by r, has no place of the other one.
func plainApart(a, b api.Zone, r int) bool {
	var l []api.Spot
	for _, c := range a.Corners {
		l = append(l, cornersOf(rect(c.X-r, c.Y-r, c.X+r, c.Y+r))...)
	}
	return !meet(hull(l), b.Corners, func(s api.Spot) bool { return encloses(b.Corners, s) })
}

// wordApart reports whether zones are more than r apart, by the directions that the chapter names, with integers of any size.
func wordApart(a, b api.Zone, r int) bool {
	directions := spots(1, 0, -1, 0, 0, 1, 0, -1)
	for _, z := range []api.Zone{a, b} {
		for i, c := range z.Corners {
			d := z.Corners[(i+1)%len(z.Corners)]
			directions = append(directions, spots(c.Y-d.Y, d.X-c.X, d.Y-c.Y, c.X-d.X)...)
		}
	}
	for _, d := range directions {
		size := max(d.X, -d.X) + max(d.Y, -d.Y)
		gap := new(big.Int).Mul(big.NewInt(int64(r)), big.NewInt(int64(size)))
		low, _ := reaches(a.Corners, d)
		_, high := reaches(b.Corners, d)
		if new(big.Int).Sub(low, high).Cmp(gap) > 0 {
			return true
		}
	}
	return false
}

// reaches returns the least and the greatest u X + v Y of places, for a direction (u, v).
func reaches(l []api.Spot, d api.Spot) (low, high *big.Int) {
	for _, s := range l {
		n := new(big.Int).Mul(big.NewInt(int64(d.X)), big.NewInt(int64(s.X)))
		n.Add(n, new(big.Int).Mul(big.NewInt(int64(d.Y)), big.NewInt(int64(s.Y))))
		if low == nil || n.Cmp(low) < 0 {
			low = n
		}
		if high == nil || n.Cmp(high) > 0 {
			high = n
		}
	}
	return low, high
}

// metres returns a number of km in m, as a quotient.
func metres(n api.Num) *big.Rat {
	q := big.NewRat(int64(n), int64(api.One))
	return q.Mul(q, big.NewRat(1000, 1))
}

// down returns a quotient, rounded down; ok is false if it has more than 63 bits.
func down(q *big.Rat) (n int, ok bool) {
	// For a divisor above 0 the rest of Euclid's division is never negative.
	i := new(big.Int).Div(q.Num(), q.Denom())
	return int(i.Int64()), i.IsInt64()
}

// plainImpact returns where something that falls hits the ground, by the chapter's steps.
func plainImpact(f api.Falling) (r api.Rect, e api.Errno) {
	defer func() {
		if fault, ok := recover().(api.Errno); ok {
			r, e = api.Rect{}, fault
		}
	}()
	must := func(a api.Span, e api.Errno) api.Span {
		if e != api.OK {
			panic(e)
		}
		return a
	}
	a := must(span.Square(f.VZ))
	b := must(span.Mul(must(span.Scale(f.Pull, 2)), f.H))
	c := must(span.Root(must(span.Add(a, b))))
	t := must(span.Div(must(span.Add(f.VZ, c)), f.Pull))
	t.Lo = max(t.Lo, 0)
	var ends [4]int
	for i, p := range [2][3]api.Span{{f.X, f.VX, f.WX}, {f.Y, f.VY, f.WY}} {
		x := must(span.Add(must(span.Add(p[0], must(span.Mul(p[1], t)))), must(span.Mul(p[2], t))))
		ends[i], _ = down(metres(x.Lo))
		high, _ := down(new(big.Rat).Neg(metres(x.Hi)))
		ends[i+2] = -high
	}
	for _, n := range ends {
		if n < -farthest || n > farthest {
			return api.Rect{}, api.ErrRange
		}
	}
	return rect(ends[0], ends[1], ends[2], ends[3]), api.OK
}

// plainRisk returns a risk, by the chapter.
func plainRisk(p api.Safety, r api.Rect) int {
	risk := 0
	for _, t := range p.Towns {
		if plainSide(t.Zone, wider(r, p.Scatter)) == -1 {
			continue
		}
		term := t.People * p.Hits / t.Area
		if t.People*p.Hits%t.Area > 0 {
			term++
		}
		if term > t.People {
			term = t.People
		}
		risk += term
	}
	return risk
}

// plainUnit is a unit, by the chapter.
type plainUnit struct {
	plan         api.Safety
	safed, ended bool
	known        bool
	at           api.Rect
	doubt        int
}

// tick returns the verdict of a tick.
func (u *plainUnit) tick(r api.Rect, there bool) (api.Verdict, api.Errno) {
	if u.safed || u.ended {
		return api.Verdict{}, api.ErrState
	}
	if there {
		for _, n := range []int{r.Low.X, r.Low.Y, r.High.X, r.High.Y} {
			if n < -farthest || n > farthest {
				return api.Verdict{}, api.ErrArg
			}
		}
		if r.Low.X > r.High.X || r.Low.Y > r.High.Y {
			return api.Verdict{}, api.ErrArg
		}
		u.at, u.known = r, true
	} else if u.known {
		w := wider(u.at, u.plan.Rate)
		u.at = rect(max(w.Low.X, -farthest), max(w.Low.Y, -farthest), min(w.High.X, farthest), min(w.High.Y, farthest))
	}
	v := api.Verdict{Known: u.known, At: u.at}
	side := 0
	if u.known {
		side = plainSide(u.plan.Allowed, u.at)
	}
	switch side {
	case -1:
		v.Why = 1
	case 1:
		u.doubt = 0
	case 0:
		u.doubt++
		if u.doubt > u.plan.Patience {
			v.Why = 2
		}
	}
	v.Destruct = v.Why > 0
	u.ended = v.Destruct
	return v, api.OK
}
