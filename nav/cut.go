package nav

import (
	"ullage/api"
	"ullage/span"
)

// Cut cuts a state by a measurement.
func Cut(s api.State, m api.Radio) (api.State, api.Errno) {
	if e := check(s, m); e != api.OK {
		return api.State{}, e
	}
	at, e := cut(motionOf(s), m)
	if e != api.OK {
		return api.State{}, e
	}
	return moved(s, at), api.OK
}

// cut returns a motion that is cut by a measurement.
func cut(at motion, m api.Radio) (motion, api.Errno) {
	return attempt(func() motion {
		at.cut(instrumentOf(m), m.Value)
		return at
	})
}

// cut cuts a motion by the value that was measured.
func (at *motion) cut(with instrument, value api.Span) {
	switch with := with.(type) {
	case ranging:
		cutByDistance(&at[ofPlace], with.from, value)
	case receding:
		d := away(at[ofPlace], with.from)
		cutBySum(&at[ofVelocity], d, mul(value, norm(d)))
	case placing:
		cutBySum(&at[ofPlace], with.dir, value)
	case moving:
		cutBySum(&at[ofVelocity], with.dir, value)
	}
}

// cutBySum cuts three spans, the sum of whose products with a is in sum.
func cutBySum(x *api.Box, a api.Box, sum api.Span) {
	for i, o := range others {
		j, k := o[0], o[1]
		left := sub(sum, add(mul(a[j], x[j]), mul(a[k], x[k])))
		// Without a quotient, also of an a that contains 0, nothing is known of x.
		if quotient, e := span.Div(left, a[i]); e == api.OK {
			x[i] = meet(x[i], quotient)
		}
	}
	meet(dot(a, *x), sum)
}

// cutByDistance cuts a place, the distance of which from another one is in distance.
func cutByDistance(place *api.Box, from api.Box, distance api.Span) {
	distance = meet(distance, api.Span{Lo: 0, Hi: api.MostNum})
	d := away(*place, from)
	q := api.Box{square(d[0]), square(d[1]), square(d[2])}
	whole := square(distance)
	for i, o := range others {
		g := root(sub(whole, add(q[o[0]], q[o[1]])))
		d[i] = bothWays(d[i], g)
		place[i] = meet(place[i], add(d[i], from[i]))
		q[i] = square(d[i])
	}
}

// bothWays returns the hull of the numbers of d that are in g, or whose negatives are.
func bothWays(d, g api.Span) api.Span {
	ahead, aheadE := span.Meet(d, g)
	astern, asternE := span.Meet(d, neg(g))
	switch {
	case aheadE != api.OK:
		return must(astern, asternE)
	case asternE != api.OK:
		return ahead
	}
	return hull(ahead, astern)
}
