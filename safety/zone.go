package safety

import (
	"iter"

	"ullage/api"
)

// minCorners is how many corners a zone has at least.
const minCorners = 3

// CheckZone reports whether a zone is valid.
func CheckZone(z api.Zone) bool {
	if !isFrom(len(z.Name), 1, api.MaxName) || !isFrom(len(z.Corners), minCorners, api.MaxCorners) {
		return false
	}
	for _, c := range z.Corners {
		if !isPlace(c, api.MaxGround) {
			return false
		}
	}
	return goesLeftOnce(z.Corners)
}

// edges goes through the edges from corner to corner, the one to the first corner last.
func edges(corners []api.Spot) iter.Seq2[api.Spot, api.Spot] {
	return func(yield func(a, b api.Spot) bool) {
		for i, a := range corners {
			if !yield(a, corners[(i+1)%len(corners)]) {
				return
			}
		}
	}
}

// goesLeftOnce reports whether edges turn left at each corner, and go round just once. Edges that turn left only go from one half plane to the other one and back each time they go round.
func goesLeftOnce(corners []api.Spot) bool {
	changes := 0
	before := from(corners[len(corners)-1], corners[0])
	for a, b := range edges(corners) {
		next := from(a, b)
		if before.left(next) <= 0 {
			return false
		}
		if before.isUpper() != next.isUpper() {
			changes++
		}
		before = next
	}
	return changes == 2
}

// Contains reports whether a zone contains a place.
func Contains(z api.Zone, s api.Spot) bool {
	return CheckZone(z) && isPlace(s, farthest) && surrounds(z.Corners, s)
}

// surrounds reports whether the zone with these corners contains a place.
func surrounds(corners []api.Spot, s api.Spot) bool {
	for a, b := range edges(corners) {
		if from(a, b).left(from(a, s)) < 0 {
			return false
		}
	}
	return true
}
