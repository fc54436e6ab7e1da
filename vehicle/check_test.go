package vehicle_test

import (
	"strings"
	"testing"

	"ullage/api"
	"ullage/vehicle"
)

// faultOf is a fault of the vehicle small, and what Check has to return for it.
type faultOf struct {
	name        string
	make        func(v *api.Vehicle)
	part, index int
	e           api.Errno
}

// wrongNames are texts that are no names.
func wrongNames() []string {
	l := []string{"", "1a", "-a", "a-", "a--", "a b", " a", "a ", "a_b", "a.b", "é", "aé", "a\n", "a;", strings.Repeat("a", 33), strings.Repeat("a", 31) + "--"}
	return append(l, reservedWords()...)
}

// wrongBounds are spans that are no bounds of numbers that are at least so much.
func wrongBounds(least api.Num) []api.Span {
	return []api.Span{
		{Lo: least - 1, Hi: api.One}, {Lo: least - 1, Hi: least - 1}, {Lo: -api.One, Hi: -1}, {Lo: noNumber, Hi: 1}, {Lo: 1, Hi: noNumber},
		{Lo: 3, Hi: 2}, {Lo: 1, Hi: api.MaxPlace + 1}, {Lo: api.MaxPlace + 1, Hi: api.MaxPlace + 1}, {Lo: api.MaxPlace, Hi: api.MostNum},
	}
}

// stages returns so many stages with names of their own.
func stages(n int) []api.Stage {
	var l []api.Stage
	for i := range n {
		l = append(l, api.Stage{Name: name("many", i), Dry: ints(1, 1)})
	}
	return l
}

// engines returns so many engines with names of their own.
func engines(n int) []api.Engine {
	s := sample{31}
	var l []api.Engine
	for i := range n {
		l = append(l, s.engine(name("kind", i)))
	}
	return l
}

// faults are all faults of a vehicle, in the order in which Check finds them.
func faults() []faultOf {
	out := faultsOfWhole()
	for i := range 2 {
		out = append(out, faultsOfStage(i)...)
	}
	out = append(out, faultsOfPayload()...)
	out = append(out, faultsOfDrag()...)
	return append(out, faultsOfLimits()...)
}

func faultsOfWhole() []faultOf {
	var out []faultOf
	for _, n := range wrongNames() {
		out = append(out, faultOf{"name " + n, func(v *api.Vehicle) { v.Name = n }, 0, 0, api.ErrArg})
	}
	return append(out,
		faultOf{"no stages", func(v *api.Vehicle) { v.Stages = nil }, 0, 0, api.ErrArg},
		faultOf{"empty stages", func(v *api.Vehicle) { v.Stages = []api.Stage{} }, 0, 0, api.ErrArg},
		faultOf{"too many stages", func(v *api.Vehicle) { v.Stages = append(twin(*v).Stages, stages(7)...) }, 0, 0, api.ErrLong},
	)
}

// faultsOfStage are those of a stage of small, and of its last engine.
func faultsOfStage(i int) []faultOf {
	var out []faultOf
	add := func(what string, e api.Errno, make func(s *api.Stage)) {
		out = append(out, faultOf{name("stage", i) + ": " + what, func(v *api.Vehicle) {
			if i < len(v.Stages) {
				make(&v.Stages[i])
			}
		}, 1, i, e})
	}
	for _, n := range wrongNames() {
		add("name "+n, api.ErrArg, func(s *api.Stage) { s.Name = n })
	}
	if i > 0 {
		add("the name of an earlier stage", api.ErrThere, func(s *api.Stage) { s.Name = "first" })
	}
	for _, a := range wrongBounds(1) {
		add("dry", api.ErrRange, func(s *api.Stage) { s.Dry = a })
	}
	for _, a := range wrongBounds(0) {
		add("prop", api.ErrRange, func(s *api.Stage) { s.Prop = a })
	}
	add("too many engines", api.ErrLong, func(s *api.Stage) { s.Engines = append(s.Engines[:1:1], engines(16)...) })
	of := func(what string, e api.Errno, make func(x *api.Engine)) {
		add(what, e, func(s *api.Stage) { make(&s.Engines[len(s.Engines)-1]) })
	}
	for _, n := range wrongNames() {
		of("an engine with the name "+n, api.ErrArg, func(x *api.Engine) { x.Name = n })
	}
	of("the name of an earlier engine", api.ErrThere, func(x *api.Engine) { x.Name = "low" })
	for _, n := range []int{0, -1, 65, -1 << 62, 1 << 62} {
		of("count", api.ErrRange, func(x *api.Engine) { x.Count = n })
	}
	for _, a := range wrongBounds(1) {
		of("thrust", api.ErrRange, func(x *api.Engine) { x.Thrust = a })
		of("flow", api.ErrRange, func(x *api.Engine) { x.Flow = a })
	}
	for _, n := range []api.Num{-1, api.One + 1, noNumber, api.MostNum} {
		of("least", api.ErrRange, func(x *api.Engine) { x.Least = n })
	}
	for _, a := range wrongBounds(0) {
		of("start", api.ErrRange, func(x *api.Engine) { x.Start = a })
		of("stop", api.ErrRange, func(x *api.Engine) { x.Stop = a })
	}
	return out
}

func faultsOfPayload() []faultOf {
	var out []faultOf
	for _, a := range wrongBounds(0) {
		out = append(out, faultOf{"payload", func(v *api.Vehicle) { v.Payload = a }, 2, 0, api.ErrRange})
	}
	return out
}

func faultsOfDrag() []faultOf {
	var out []faultOf
	add := func(what string, l ...api.Point) {
		out = append(out, faultOf{"drag: " + what, func(v *api.Vehicle) { v.Drag = l }, 3, 0, api.ErrArg})
	}
	add("no points")
	var many []api.Point
	for i := range api.MaxTable + 1 {
		many = append(many, api.Point{At: api.Num(i)})
	}
	add("too many points", many...)
	add("places that do not rise", api.Point{At: 1}, api.Point{At: 1})
	add("places that fall", api.Point{At: 1}, api.Point{At: 0})
	add("a place below 0", api.Point{At: -1}, api.Point{At: 1})
	add("a place too great", api.Point{At: 1}, api.Point{At: api.MaxPlace + 1})
	for _, a := range wrongBounds(0) {
		add("a value", api.Point{At: 0}, api.Point{At: 1, Value: a})
	}
	return out
}

func faultsOfLimits() []faultOf {
	var out []faultOf
	for _, n := range []api.Num{0, -1, noNumber, api.MaxPlace + 1, api.MostNum} {
		out = append(out, faultOf{"axial", func(v *api.Vehicle) { v.Axial = n }, 4, 0, api.ErrRange})
		out = append(out, faultOf{"bending", func(v *api.Vehicle) { v.Bending = n }, 4, 0, api.ErrRange})
	}
	return out
}

// wantCheck checks what Check returns.
func wantCheck(t *testing.T, what string, v api.Vehicle, part, index int, e api.Errno) {
	t.Helper()
	if gotPart, gotIndex, gotE := vehicle.Check(v); gotPart != part || gotIndex != index || gotE != e {
		t.Errorf("%s: part %d, index %d, error %d; want %d, %d, %d", what, gotPart, gotIndex, gotE, part, index, e)
	}
}

// TestCheckFaults: P2.8, each fault alone.
func TestCheckFaults(t *testing.T) {
	wantCheck(t, "small", small(), 0, 0, api.OK)
	wantCheck(t, "nothing", api.Vehicle{}, 0, 0, api.ErrArg)
	for _, f := range faults() {
		v := small()
		f.make(&v)
		wantCheck(t, f.name, v, f.part, f.index, f.e)
	}
}

// TestCheckOrder: P2.8, of two faults the first one.
func TestCheckOrder(t *testing.T) {
	l := faults()
	for i, first := range l {
		for _, second := range l[i+1:] {
			v := small()
			second.make(&v)
			first.make(&v)
			// A fault may cover another one of the same place; the later one is then not there.
			wantCheck(t, first.name+", then "+second.name, v, first.part, first.index, first.e)
		}
	}
}

// TestCheckFindsNothing: P2.8, at the limits.
func TestCheckFindsNothing(t *testing.T) {
	for i, change := range []func(v *api.Vehicle){
		func(v *api.Vehicle) { v.Name = strings.Repeat("Zz-9", 8) },
		func(v *api.Vehicle) { v.Name = "a" },
		func(v *api.Vehicle) { v.Name = "first" },
		func(v *api.Vehicle) { v.Name = "Vehicle" },
		func(v *api.Vehicle) { v.Name = "a--b" },
		func(v *api.Vehicle) { v.Stages = stages(8) },
		func(v *api.Vehicle) { v.Stages = stages(1) },
		func(v *api.Vehicle) { v.Stages[0].Engines = engines(16) },
		func(v *api.Vehicle) { v.Stages[0].Engines[0].Name = "first" },
		func(v *api.Vehicle) { v.Stages[0].Dry = api.Span{Lo: 1, Hi: api.MaxPlace} },
		func(v *api.Vehicle) { v.Stages[0].Dry = point(api.MaxPlace) },
		func(v *api.Vehicle) { v.Stages[0].Prop = api.Span{Lo: 0, Hi: api.MaxPlace} },
		func(v *api.Vehicle) { v.Stages[0].Prop = api.Span{} },
		func(v *api.Vehicle) { v.Stages[1].Engines[0].Count = 1 },
		func(v *api.Vehicle) { v.Stages[1].Engines[0].Count = 64 },
		func(v *api.Vehicle) { v.Stages[1].Engines[0].Thrust = api.Span{Lo: 1, Hi: api.MaxPlace} },
		func(v *api.Vehicle) { v.Stages[1].Engines[0].Flow = api.Span{Lo: 1, Hi: api.MaxPlace} },
		func(v *api.Vehicle) { v.Stages[1].Engines[0].Least = 0 },
		func(v *api.Vehicle) { v.Stages[1].Engines[0].Least = api.One },
		func(v *api.Vehicle) { v.Stages[1].Engines[0].Start = api.Span{Lo: 0, Hi: api.MaxPlace} },
		func(v *api.Vehicle) { v.Stages[1].Engines[0].Stop = api.Span{} },
		func(v *api.Vehicle) { v.Payload = api.Span{} },
		func(v *api.Vehicle) { v.Payload = point(api.MaxPlace) },
		func(v *api.Vehicle) { v.Drag = []api.Point{{At: 0}} },
		func(v *api.Vehicle) {
			v.Drag = nil
			for i := range api.MaxTable {
				v.Drag = append(v.Drag, api.Point{At: api.Num(i)})
			}
		},
		func(v *api.Vehicle) {
			v.Drag = []api.Point{{At: api.MaxPlace, Value: api.Span{Lo: 0, Hi: api.MaxPlace}}}
		},
		func(v *api.Vehicle) { v.Axial, v.Bending = 1, api.MaxPlace },
		func(v *api.Vehicle) { v.Axial, v.Bending = api.MaxPlace, 1 },
	} {
		v := small()
		change(&v)
		wantCheck(t, name("change", i), v, 0, 0, api.OK)
	}
	s := sample{5}
	for range 200 {
		wantCheck(t, "a sampled vehicle", s.vehicle(), 0, 0, api.OK)
	}
}
