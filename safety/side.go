package safety

import (
	"iter"

	"ullage/api"
)

// Sides of a rect to a zone.
const (
	inside  = 1
	outside = -1
	unsure  = 0
)

// mostApart is the greatest distance that may be asked for.
const mostApart = 1 << 40

// validRect reports whether a rect is valid.
func validRect(r api.Rect) bool {
	return isPlace(r.Low, farthest) && isPlace(r.High, farthest) && r.Low.X <= r.High.X && r.Low.Y <= r.High.Y
}

// grown returns a rect that reaches n farther to all sides.
func grown(r api.Rect, n int) api.Rect {
	return api.Rect{
		Low:  api.Spot{X: r.Low.X - n, Y: r.Low.Y - n},
		High: api.Spot{X: r.High.X + n, Y: r.High.Y + n},
	}
}

// cornersOf returns the corners of a rect, in the order of a zone's.
func cornersOf(r api.Rect) []api.Spot {
	return []api.Spot{r.Low, {X: r.High.X, Y: r.Low.Y}, r.High, {X: r.Low.X, Y: r.High.Y}}
}

// Side returns whether a rect is inside or outside of a zone.
func Side(z api.Zone, r api.Rect) (int, api.Errno) {
	if !CheckZone(z) || !validRect(r) {
		return 0, api.ErrArg
	}
	return sideOf(z.Corners, r), api.OK
}

// sideOf returns the side of a rect to the zone with these corners.
func sideOf(zone []api.Spot, r api.Rect) int {
	corners := cornersOf(r)
	if areApart(zone, corners, 0) {
		return outside
	}
	for _, c := range corners {
		if !surrounds(zone, c) {
			return unsure
		}
	}
	return inside
}

// Apart reports whether two zones are more than r apart.
func Apart(a, b api.Zone, r int) (bool, api.Errno) {
	if !CheckZone(a) || !CheckZone(b) {
		return false, api.ErrArg
	}
	if !isFrom(r, 0, mostApart) {
		return false, api.ErrRange
	}
	return zonesApart(a, b, r), api.OK
}

// zonesApart reports whether two valid zones are more than r apart.
func zonesApart(a, b api.Zone, r int) bool {
	// No zones are more than this apart, and a product with a greater r could leave 64 bits.
	return areApart(a.Corners, b.Corners, min(r, farthest))
}

// areApart reports whether a direction shows that two convex areas, one of them a zone, are more than r apart.
func areApart(a, b []api.Spot, r int) bool {
	separates := func(d way) bool {
		gap := r * d.size()
		lowA, highA := extent(a, d)
		lowB, highB := extent(b, d)
		return lowA-highB > gap || lowB-highA > gap
	}
	for d := range directions(a, b) {
		if separates(d) {
			return true
		}
	}
	return false
}

// extent returns how far the places of an area lie in a direction, at least and at most.
func extent(corners []api.Spot, d way) (low, high int) {
	low = d.along(corners[0])
	high = low
	for _, c := range corners {
		n := d.along(c)
		low, high = min(low, n), max(high, n)
	}
	return low, high
}

// directions goes through the directions along x and y, and at right angles to the edges of areas.
func directions(areas ...[]api.Spot) iter.Seq[way] {
	return func(yield func(way) bool) {
		// An area that is a point or a line has no edges of its own in some of these.
		if !yield(way{x: 1}) || !yield(way{y: 1}) {
			return
		}
		for _, corners := range areas {
			for a, b := range edges(corners) {
				if !yield(from(a, b).normal()) {
					return
				}
			}
		}
	}
}
