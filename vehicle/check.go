package vehicle

import (
	"ullage/api"
	"ullage/span"
)

// The parts of a vehicle in which Check finds faults.
const (
	partWhole = iota
	partStage
	partPayload
	partDrag
	partLimits
)

// Check returns the first fault of a vehicle.
func Check(v api.Vehicle) (part, index int, e api.Errno) {
	if e := checkWhole(v); e != api.OK {
		return partWhole, 0, e
	}
	engines := map[string]bool{}
	for i := range v.Stages {
		if e := checkStage(v.Stages, i, engines); e != api.OK {
			return partStage, i, e
		}
	}
	switch {
	case !isBounds(v.Payload, 0):
		return partPayload, 0, api.ErrRange
	case !isDrag(v.Drag):
		return partDrag, 0, api.ErrArg
	case !isLimit(v.Axial) || !isLimit(v.Bending):
		return partLimits, 0, api.ErrRange
	}
	return 0, 0, api.OK
}

// valid reports whether a vehicle is valid.
func valid(v api.Vehicle) bool {
	_, _, e := Check(v)
	return e == api.OK
}

// checkWhole returns the first fault of a vehicle's name and its number of stages.
func checkWhole(v api.Vehicle) api.Errno {
	switch {
	case !isName(v.Name) || len(v.Stages) == 0:
		return api.ErrArg
	case len(v.Stages) > api.MaxStages:
		return api.ErrLong
	}
	return api.OK
}

// checkStage returns the first fault of a stage, and adds the names of its engines to those of earlier ones.
func checkStage(l []api.Stage, i int, engines map[string]bool) api.Errno {
	s := l[i]
	if !isName(s.Name) {
		return api.ErrArg
	}
	for _, earlier := range l[:i] {
		if earlier.Name == s.Name {
			return api.ErrThere
		}
	}
	switch {
	case !isBounds(s.Dry, 1) || !isBounds(s.Prop, 0):
		return api.ErrRange
	case len(s.Engines) > api.MaxEngines:
		return api.ErrLong
	}
	for _, x := range s.Engines {
		if e := checkEngine(x, engines); e != api.OK {
			return e
		}
		engines[x.Name] = true
	}
	return api.OK
}

// checkEngine returns the first fault of an engine, behind engines with some names.
func checkEngine(x api.Engine, earlier map[string]bool) api.Errno {
	switch {
	case !isName(x.Name):
		return api.ErrArg
	case earlier[x.Name]:
		return api.ErrThere
	case x.Count < 1 || x.Count > api.MaxCount:
		return api.ErrRange
	case !isBounds(x.Thrust, 1) || !isBounds(x.Flow, 1):
		return api.ErrRange
	case x.Least < 0 || x.Least > api.One:
		return api.ErrRange
	case !isBounds(x.Start, 0) || !isBounds(x.Stop, 0):
		return api.ErrRange
	}
	return api.OK
}

// isBounds reports whether a span is bounds from at least a number to at most MaxPlace.
func isBounds(a api.Span, least api.Num) bool {
	return least <= a.Lo && a.Lo <= a.Hi && a.Hi <= api.MaxPlace
}

// isLimit reports whether a number is a limit of a structure.
func isLimit(n api.Num) bool {
	return 1 <= n && n <= api.MaxPlace
}

// isDrag reports whether a table is a drag table.
func isDrag(l []api.Point) bool {
	if span.CheckTable(l) != api.OK {
		return false
	}
	for _, p := range l {
		if p.At < 0 || p.At > api.MaxPlace || !isBounds(p.Value, 0) {
			return false
		}
	}
	return true
}
