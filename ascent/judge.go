package ascent

import (
	"ullage/api"
	"ullage/flight"
	"ullage/span"
)

// What a cell is judged to be.
const (
	fails   = -1
	unsure  = 0
	reaches = 1
)

// judged is what is known of the demands on a cell so far: whether one is surely not met, and whether all surely are.
type judged struct{ broken, met bool }

// demand has a value, or its error, judged by the numbers that it may be.
func (j *judged) demand(allowed, value api.Span, e api.Errno) {
	j.broken = j.broken || e == api.OK && span.Order(value, allowed) != 0
	j.met = j.met && e == api.OK && span.Within(value, allowed)
}

// measure is something that is judged of a tube of an arc: how it is reckoned, and what it may be.
type measure struct {
	value   func(a api.Arc, t api.Tube) (api.Span, api.Errno)
	allowed api.Span
}

// Judge returns whether a cell surely fails, or surely reaches.
func Judge(t api.Ascent, c []api.Knob) (int, api.Errno) {
	if e := checkCell(t, c); e != api.OK {
		return 0, e
	}
	return cell(c).judge(t), api.OK
}

// judge judges a cell of a valid task.
func (c cell) judge(t api.Ascent) int {
	arcs, e := c.arcs(t)
	if e != api.OK {
		return unsure
	}
	stops, tubes, e := flight.Fly(t.Planet, arcs, t.Start)
	if e != api.OK {
		return unsure
	}
	j := judged{met: true}
	j.end(t, stops[len(stops)-1])
	j.way(measures(t), arcs, tubes)
	switch {
	case j.broken:
		return fails
	case j.met:
		return reaches
	}
	return unsure
}

// end judges where a flight ends.
func (j *judged) end(t api.Ascent, s api.State) {
	height, e := flight.Height(t.Planet, s.P)
	j.demand(t.Height, height, e)
	speed, e := flight.Speed(s.V)
	j.demand(t.Speed, speed, e)
	climb, e := flight.Climb(s.P, s.V)
	j.demand(t.Climb, climb, e)
}

// measures returns what is judged of each tube.
func measures(t api.Ascent) []measure {
	l := []measure{{
		value:   func(a api.Arc, tube api.Tube) (api.Span, api.Errno) { return span.Div(a.Thrust, tube.M) },
		allowed: upTo(t.Axial),
	}}
	if len(t.Density) > 0 {
		l = append(l, measure{
			value: func(_ api.Arc, tube api.Tube) (api.Span, api.Errno) {
				return flight.Pressure(t.Planet, t.Density, tube)
			},
			allowed: upTo(t.Bending),
		})
	}
	return l
}

// way judges all tubes of a flight along arcs.
func (j *judged) way(l []measure, arcs []api.Arc, tubes []api.Tube) {
	for _, a := range arcs {
		n, _ := flight.Steps(a) // what has been flown has no more steps than there may be
		for _, tube := range tubes[:n] {
			for _, m := range l {
				value, e := m.value(a, tube)
				j.demand(m.allowed, value, e)
			}
		}
		tubes = tubes[n:]
	}
}
