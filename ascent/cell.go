package ascent

import (
	"slices"

	"ullage/api"
	"ullage/span"
)

// cell is ranges of the controls of a task's parts.
type cell []api.Knob

// Whole returns the cell of all ranges.
func Whole(t api.Ascent) ([]api.Knob, api.Errno) {
	if CheckTask(t) != api.OK {
		return nil, api.ErrArg
	}
	return whole(t), api.OK
}

// whole returns the cell of all ranges of a valid task.
func whole(t api.Ascent) cell {
	var c cell
	for _, p := range t.Parts {
		c = append(c, api.Knob{Pitch: p.Pitch, Level: p.Level})
	}
	return c
}

// Arcs returns the arcs of a cell.
func Arcs(t api.Ascent, c []api.Knob) ([]api.Arc, api.Errno) {
	if e := checkCell(t, c); e != api.OK {
		return nil, e
	}
	return cell(c).arcs(t)
}

// Cost returns the cost of a cell.
func Cost(t api.Ascent, c []api.Knob) (api.Span, api.Errno) {
	if e := checkCell(t, c); e != api.OK {
		return api.Span{}, e
	}
	return cell(c).cost(t)
}

// arcs returns the arcs of a cell of a valid task.
func (c cell) arcs(t api.Ascent) ([]api.Arc, api.Errno) {
	var l []api.Arc
	for i, k := range c {
		a := t.Parts[i].Arc
		thrust, e := span.Mul(a.Thrust, k.Level)
		if e != api.OK {
			return nil, e
		}
		flow, e := span.Mul(a.Flow, k.Level)
		if e != api.OK {
			return nil, e
		}
		dir, e := direction(k.Pitch, t.East, t.Up)
		if e != api.OK {
			return nil, e
		}
		a.Thrust, a.Flow, a.Dir, a.Drag = thrust, flow, dir, slices.Clone(a.Drag)
		l = append(l, a)
	}
	return l, api.OK
}

// direction returns the directions that are pitched up from one direction to another one.
func direction(pitch api.Span, east, up api.Box) (api.Box, api.Errno) {
	c, s, e := span.Turn(pitch)
	if e != api.OK {
		return api.Box{}, e
	}
	var dir api.Box
	for i := range dir {
		if dir[i], e = pitched(c, s, east[i], up[i]); e != api.OK {
			return api.Box{}, e
		}
	}
	return dir, api.OK
}

// pitched returns a component of a direction, by the cosine and the sine of its pitch.
func pitched(c, s, east, up api.Span) (api.Span, api.Errno) {
	ahead, e := span.Mul(c, east)
	if e != api.OK {
		return api.Span{}, e
	}
	above, e := span.Mul(s, up)
	if e != api.OK {
		return api.Span{}, e
	}
	all, e := span.Add(ahead, above)
	if e != api.OK {
		return api.Span{}, e
	}
	return span.Meet(all, fromMinusOne())
}

// cost returns the cost of a cell of a valid task.
func (c cell) cost(t api.Ascent) (api.Span, api.Errno) {
	var sum api.Span
	for i, k := range c {
		a := t.Parts[i].Arc
		flow, e := span.Mul(a.Flow, k.Level)
		if e != api.OK {
			return api.Span{}, e
		}
		burnt, e := span.Mul(flow, point(a.Time))
		if e != api.OK {
			return api.Span{}, e
		}
		if sum, e = span.Add(sum, burnt); e != api.OK {
			return api.Span{}, e
		}
	}
	return sum, api.OK
}

// controls returns how many ranges a cell has.
func (c cell) controls() int { return 2 * len(c) }

// control returns a range of a cell; they are numbered part by part, the pitch first.
func (c cell) control(i int) api.Span {
	if i%2 == 0 {
		return c[i/2].Pitch
	}
	return c[i/2].Level
}

// with returns a cell with another range for a control.
func (c cell) with(i int, a api.Span) cell {
	out := slices.Clone(c)
	if i%2 == 0 {
		out[i/2].Pitch = a
	} else {
		out[i/2].Level = a
	}
	return out
}

// The ranges of a cell are valid and at most 2 wide: Mid, Wide and Split have no error below.

// middle returns the climb in the middle of a cell.
func (c cell) middle() cell {
	m := c
	for i := range c.controls() {
		n, _ := span.Mid(c.control(i))
		m = m.with(i, point(n))
	}
	return m
}

// halves splits a cell where it is widest; not, if it is too narrow.
func (c cell) halves() (low, high cell, ok bool) {
	widest, width := 0, api.Num(0)
	for i := range c.controls() {
		if w, _ := span.Wide(c.control(i)); w > width {
			widest, width = i, w
		}
	}
	if width < 2 {
		return nil, nil, false
	}
	below, above, _ := span.Split(c.control(widest))
	return c.with(widest, below), c.with(widest, above), true
}
