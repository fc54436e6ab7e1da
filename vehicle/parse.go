package vehicle

import (
	"slices"

	"ullage/api"
)

// draft is what has been read of a vehicle, and the names and the parts that it has so far.
type draft struct {
	v       api.Vehicle
	lets    map[string]api.Quantity
	engines map[string]bool
	parts   map[string]bool
}

// field is a field of a block: its word, what it measures, and what reads it, up to the sign behind it.
type field struct {
	word string
	of   measure
	read func(of measure) api.Span
}

// Parse reads a vehicle.
func Parse(s string) (v api.Vehicle, at int, e api.Errno) {
	p := parser{
		reader{text: s},
		draft{lets: map[string]api.Quantity{}, engines: map[string]bool{}, parts: map[string]bool{}},
	}
	return attempt(s, p.whole)
}

// whole reads a vehicle that is the whole text.
func (p *parser) whole() api.Vehicle {
	p.expect("vehicle")
	p.v.Name = p.name().text
	p.expect(";")
	for p.look().kind != end {
		p.declaration()
	}
	if len(p.parts) < 3 {
		panic(fault{len(p.text), api.ErrState})
	}
	_, _, e := Check(p.v)
	demand(len(p.text), e)
	return p.v
}

// declaration reads a let, a stage, an engine or a part that is there once.
func (p *parser) declaration() {
	t := p.take()
	switch t.text {
	case "let":
		p.let()
	case "stage":
		p.stage()
	case "engine":
		p.engine()
	case "drag":
		p.once(t)
		p.drag()
	case "limits":
		p.once(t)
		p.limits()
	case "payload":
		p.once(t)
		p.expect("=")
		p.v.Payload = p.bounds(mass)
	default:
		panic(fault{t.at, api.ErrForm})
	}
}

// once marks a part as read.
func (p *parser) once(t token) {
	if p.parts[t.text] {
		panic(fault{t.at, api.ErrThere})
	}
	p.parts[t.text] = true
}

// name takes a name.
func (p *parser) name() token {
	t := p.take()
	if t.kind != word || reserved(t.text) {
		panic(fault{t.at, api.ErrForm})
	}
	return t
}

// newName takes a name that nothing of its sort has yet.
func (p *parser) newName(taken func(name string) bool) string {
	t := p.name()
	if taken(t.text) {
		panic(fault{t.at, api.ErrThere})
	}
	return t.text
}

// let reads what stands behind the word let.
func (p *parser) let() {
	name := p.newName(func(name string) bool {
		_, is := p.lets[name]
		return is
	})
	p.expect("=")
	q := p.quantity()
	p.expect(";")
	p.lets[name] = q
}

// stageIndex returns the index of the stage with a name, or -1.
func (p *parser) stageIndex(name string) int {
	return slices.IndexFunc(p.v.Stages, func(s api.Stage) bool { return s.Name == name })
}

// stage reads what stands behind the word stage.
func (p *parser) stage() {
	name := p.newName(func(name string) bool { return p.stageIndex(name) >= 0 })
	got := p.block([]field{
		{"dry", mass, p.bounds},
		{"prop", mass, p.bounds},
	})
	p.v.Stages = append(p.v.Stages, api.Stage{Name: name, Dry: got[0], Prop: got[1]})
}

// engine reads what stands behind the word engine.
func (p *parser) engine() {
	name := p.newName(func(name string) bool { return p.engines[name] })
	p.expect("in")
	of := p.name()
	i := p.stageIndex(of.text)
	if i < 0 {
		panic(fault{of.at, api.ErrNone})
	}
	got := p.block([]field{
		{"count", plain, p.count},
		{"thrust", force, p.bounds},
		{"flow", rate, p.bounds},
		{"least", plain, p.lower},
		{"start", duration, p.bounds},
		{"stop", duration, p.bounds},
	})
	p.engines[name] = true
	p.v.Stages[i].Engines = append(p.v.Stages[i].Engines, api.Engine{
		Name: name, Count: int(got[0].Lo), Thrust: got[1], Flow: got[2], Least: got[3].Lo, Start: got[4], Stop: got[5],
	})
}

// limits reads what stands behind the word limits.
func (p *parser) limits() {
	got := p.block([]field{
		{"axial", acceleration, p.lower},
		{"bending", pressure, p.lower},
	})
	p.v.Axial, p.v.Bending = got[0].Lo, got[1].Lo
}

// drag reads what stands behind the word drag.
func (p *parser) drag() {
	p.expect("{")
	for p.look().text != "}" {
		place := p.number(speed, ":")
		p.v.Drag = append(p.v.Drag, api.Point{At: place, Value: p.bounds(area)})
	}
	p.take()
}

// block reads the fields of a block, and returns what they have.
func (p *parser) block(l []field) []api.Span {
	p.expect("{")
	var out []api.Span
	for _, f := range l {
		p.expect(f.word)
		p.expect("=")
		out = append(out, f.read(f.of))
	}
	p.expect("}")
	return out
}

// single reads a quantity up to the sign behind it, and returns where it begins, too.
func (p *parser) single(of measure, behind string) (q api.Quantity, at int) {
	at = p.look().at
	q = p.quantity()
	p.expect(behind)
	demandMeasure(at, of, q)
	return q, at
}

// demandMeasure makes it a fault if a quantity does not have the dimension.
func demandMeasure(at int, of measure, q api.Quantity) {
	if dimensionOf(q) != measures[of].is {
		panic(fault{at, api.ErrUnit})
	}
}

// count reads a number of engines; it is no number of layer 1, but the integer itself.
func (p *parser) count(of measure) api.Span {
	q, at := p.single(of, ";")
	if q.Den != 1 || q.Num < 1 || q.Num > api.MaxCount {
		panic(fault{at, api.ErrRange})
	}
	return api.Span{Lo: api.Num(q.Num), Hi: api.Num(q.Num)}
}

// lower reads a quantity of which the lower number is meant.
func (p *parser) lower(of measure) api.Span {
	n := p.number(of, ";")
	return api.Span{Lo: n, Hi: n}
}

// number reads a quantity up to the sign behind it, and returns its lower number.
func (p *parser) number(of measure, behind string) api.Num {
	q, at := p.single(of, behind)
	n, e := Lower(q)
	demand(at, e)
	return n
}

// bounds reads bounds.
func (p *parser) bounds(of measure) api.Span {
	at := p.look().at
	low := p.quantity()
	high := low
	between := p.look().text
	if between == "+-" || between == ".." {
		p.take()
		high = p.quantity()
	}
	p.expect(";")
	demandMeasure(at, of, low)
	demandMeasure(at, of, high)
	if between == "+-" {
		low, high = bothSides(at, low, high)
	}
	return spanOf(at, low, high)
}

// bothSides returns a - b and a + b.
func bothSides(at int, a, b api.Quantity) (low, high api.Quantity) {
	low, e := Minus(a, b)
	demand(at, e)
	high, e = Plus(a, b)
	demand(at, e)
	return low, high
}

// spanOf returns the span from the lower number of low to the upper number of high.
func spanOf(at int, low, high api.Quantity) api.Span {
	lo, e := Lower(low)
	demand(at, e)
	hi, e := Upper(high)
	demand(at, e)
	if lo > hi {
		panic(fault{at, api.ErrOrder})
	}
	return api.Span{Lo: lo, Hi: hi}
}
