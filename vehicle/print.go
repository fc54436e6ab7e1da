package vehicle

import (
	"strconv"
	"strings"

	"ullage/api"
)

// Print writes a vehicle.
func Print(v api.Vehicle) string {
	if !valid(v) {
		return ""
	}
	var out strings.Builder
	out.WriteString("vehicle " + v.Name + ";\n")
	for _, s := range v.Stages {
		out.WriteString(printStage(s))
		for _, x := range s.Engines {
			out.WriteString(printEngine(x, s.Name))
		}
	}
	out.WriteString("drag {")
	for _, p := range v.Drag {
		out.WriteString(" " + printNum(p.At, speed) + " : " + printBounds(p.Value, area) + ";")
	}
	out.WriteString(" }\n")
	out.WriteString("limits { axial = " + printNum(v.Axial, acceleration) + "; bending = " + printNum(v.Bending, pressure) + "; }\n")
	out.WriteString("payload = " + printBounds(v.Payload, mass) + ";\n")
	return out.String()
}

// printStage writes the line of a stage.
func printStage(s api.Stage) string {
	return "stage " + s.Name + " { dry = " + printBounds(s.Dry, mass) + "; prop = " + printBounds(s.Prop, mass) + "; }\n"
}

// printEngine writes the line of an engine.
func printEngine(x api.Engine, stage string) string {
	return "engine " + x.Name + " in " + stage +
		" { count = " + strconv.Itoa(x.Count) +
		"; thrust = " + printBounds(x.Thrust, force) +
		"; flow = " + printBounds(x.Flow, rate) +
		"; least = " + printNum(x.Least, plain) +
		"; start = " + printBounds(x.Start, duration) +
		"; stop = " + printBounds(x.Stop, duration) + "; }\n"
}

// printBounds writes bounds.
func printBounds(a api.Span, of measure) string {
	return printNum(a.Lo, of) + " .. " + printNum(a.Hi, of)
}

// printNum writes a number, with the unit of what it measures.
func printNum(n api.Num, of measure) string {
	q := lowest(int(n), int(api.One), dimension{})
	out := strconv.Itoa(q.Num)
	if unit := measures[of].unit; unit != "" {
		out += " " + unit
	}
	if q.Den != 1 {
		out += " / " + strconv.Itoa(q.Den)
	}
	return out
}
