package safety

import "ullage/api"

// maxPatience is the greatest patience of a plan.
const maxPatience = 1000

// CheckPlan reports whether a plan is valid.
func CheckPlan(p api.Safety) bool {
	if !CheckZone(p.Allowed) || len(p.Protected) > api.MaxZones || len(p.Towns) > api.MaxZones {
		return false
	}
	for _, z := range p.Protected {
		if !CheckZone(z) {
			return false
		}
	}
	for _, t := range p.Towns {
		if !validTown(t) {
			return false
		}
	}
	for _, n := range []int{p.Rate, p.Scatter, p.Hits} {
		if !isFrom(n, 0, api.MaxGround) {
			return false
		}
	}
	return isFrom(p.Patience, 0, maxPatience)
}

// validTown reports whether a town is valid.
func validTown(t api.Town) bool {
	return CheckZone(t.Zone) && isFrom(t.People, 0, api.MaxPeople) && isFrom(t.Area, 1, api.MaxPeople)
}

// Clear reports whether a plan is clear.
func Clear(p api.Safety) (bool, api.Errno) {
	if !CheckPlan(p) {
		return false, api.ErrArg
	}
	reach := p.Rate*(p.Patience+1) + p.Scatter
	for _, z := range p.Protected {
		if !zonesApart(p.Allowed, z, reach) {
			return false, api.OK
		}
	}
	return true, api.OK
}

// Risk returns the risk of a rect.
func Risk(p api.Safety, r api.Rect) (int, api.Errno) {
	if !CheckPlan(p) || !validRect(r) {
		return 0, api.ErrArg
	}
	debris := grown(r, p.Scatter)
	risk := 0
	for _, t := range p.Towns {
		if sideOf(t.Zone.Corners, debris) != outside {
			risk += min(t.People, divideUp(t.People*p.Hits, t.Area))
		}
	}
	return risk, api.OK
}

// divideUp returns the quotient of a number that is not negative and one above 0, rounded up.
func divideUp(n, by int) int { return (n + by - 1) / by }
