package engine_test

import (
	"strings"
	"testing"

	"ullage/api"
	"ullage/engine"
)

// change is a change of the chapter's plant, and whether it is valid then.
type change struct {
	what  string
	make  func(p *api.Plant)
	valid bool
}

// checkChanges checks each change, with CheckPlant, New and Path.
func checkChanges(t *testing.T, l []change) {
	t.Helper()
	for _, c := range l {
		p := example(bothOpen())
		c.make(&p)
		if got := engine.CheckPlant(p); got != c.valid {
			t.Errorf("%s: %v", c.what, got)
		}
		wanted := api.OK
		if !c.valid {
			wanted = api.ErrArg
		}
		s, e := engine.New(p)
		wantError(t, "New: "+c.what, e, wanted)
		if (s != nil) != c.valid {
			t.Errorf("New: %s: %v", c.what, s)
		}
		if _, e := engine.Path(p, []api.Lit{lit(0, p.Valves != nil && p.Valves[0].Open)}); e != wanted {
			t.Errorf("Path: %s: error %d, want %d", c.what, e, wanted)
		}
		if got := engine.CheckSequence(p, api.Sequence{}); got != c.valid {
			t.Errorf("CheckSequence: %s: %v", c.what, got)
		}
	}
}

// edges are changes of a number that has to be from low to high.
func edges(what string, low, high int, set func(p *api.Plant, n int)) []change {
	var l []change
	for _, x := range []struct {
		n     int
		valid bool
	}{{low - 1, false}, {low, true}, {high, true}, {high + 1, false}, {-1 << 63, false}, {1<<63 - 1, false}} {
		l = append(l, change{what, func(p *api.Plant) { set(p, x.n) }, x.valid})
	}
	return l
}

// TestTanks: P7.1, P7.2.
func TestTanks(t *testing.T) {
	many := func(n int) func(p *api.Plant) {
		return func(p *api.Plant) {
			p.Tanks, p.Lines = nil, nil
			for i := range n {
				p.Tanks = append(p.Tanks, api.Tank{Name: name(i, 1), Room: 1, Least: 1})
			}
		}
	}
	named := func(s string) func(p *api.Plant) { return func(p *api.Plant) { p.Tanks[1].Name = s } }
	checkChanges(t, []change{
		{"none", many(0), false}, {"1", many(1), true}, {"16", many(16), true}, {"17", many(17), false},
		{"no name", named(""), false}, {"32 bytes", named(strings.Repeat("x", 32)), true}, {"33 bytes", named(strings.Repeat("x", 33)), false},
		{"33 bytes in 17 signs", named(strings.Repeat("\u00e9", 16) + "x"), false}, {"no text", named("\xff\x00"), true},
		{"the same name", named("a"), false}, {"the name of a valve", named("v"), true}, {"as another one, larger", named("A"), true},
	})
	checkChanges(t, edges("Room", 1, api.MaxMass, func(p *api.Plant, n int) { p.Tanks[1].Room = n }))
	checkChanges(t, edges("Least", 1, api.MaxMass, func(p *api.Plant, n int) { p.Tanks[1].Least = n }))
	checkChanges(t, edges("Limit", 0, api.MaxMass, func(p *api.Plant, n int) { p.Tanks[1].Limit = n }))
}

// TestValves: P7.1, P7.2.
func TestValves(t *testing.T) {
	many := func(n int) func(p *api.Plant) {
		return func(p *api.Plant) {
			p.Valves, p.Lines, p.Never = nil, nil, nil
			for i := range n {
				p.Valves = append(p.Valves, api.Valve{Name: name(i, 1), Travel: 1, Open: i%2 == 0})
			}
		}
	}
	named := func(s string) func(p *api.Plant) { return func(p *api.Plant) { p.Valves[1].Name = s } }
	checkChanges(t, []change{
		{"none", many(0), false}, {"1", many(1), true}, {"12", many(12), true}, {"13", many(13), false},
		{"no name", named(""), false}, {"32 bytes", named(strings.Repeat("x", 32)), true}, {"33 bytes", named(strings.Repeat("x", 33)), false},
		{"the same name", named("v"), false}, {"the name of a tank", named("a"), true},
	})
	checkChanges(t, edges("Travel", 1, api.MaxTravel, func(p *api.Plant, n int) { p.Valves[1].Travel = n }))
}

// TestLines: P7.1, P7.2.
func TestLines(t *testing.T) {
	many := func(n int) func(p *api.Plant) {
		return func(p *api.Plant) {
			p.Lines = nil
			for range n {
				p.Lines = append(p.Lines, api.Line{From: 0, To: -1, Flow: 1, Valves: []int{0}})
			}
		}
	}
	along := func(from, to int) func(p *api.Plant) {
		return func(p *api.Plant) { p.Lines[1].From, p.Lines[1].To = from, to }
	}
	valves := func(l ...int) func(p *api.Plant) { return func(p *api.Plant) { p.Lines[0].Valves = l } }
	checkChanges(t, []change{
		{"none", many(0), true}, {"32", many(32), true}, {"33", many(33), false},
		{"into itself", along(1, 1), false}, {"from outside to outside", along(-1, -1), false}, {"outwards", along(1, -1), true},
		{"no valve", valves(), false}, {"4 valves", valves(0, 1, 1, 0), true}, {"5 valves", valves(0, 0, 0, 0, 0), false},
		{"a valve below 0", valves(0, -1), false}, {"a valve behind the last", valves(2, 0), false},
		{"a wrong valve in the last line", func(p *api.Plant) { p.Lines[1].Valves = []int{2} }, false},
	})
	checkChanges(t, edges("From", -1, 1, func(p *api.Plant, n int) { p.Lines[0].From, p.Lines[0].To = n, (n&1+1)%2 }))
	checkChanges(t, edges("To", -1, 1, func(p *api.Plant, n int) { p.Lines[0].To, p.Lines[0].From = n, (n&1+1)%2 }))
	checkChanges(t, edges("Flow", 1, api.MaxMass, func(p *api.Plant, n int) { p.Lines[1].Flow = n }))
}

// TestSets: P7.1, P7.2; no set of Never may hold at first.
func TestSets(t *testing.T) {
	never := func(l ...[]api.Lit) func(p *api.Plant) { return func(p *api.Plant) { p.Never = l } }
	many := func(n int) func(p *api.Plant) {
		return func(p *api.Plant) {
			p.Never = nil
			for range n {
				p.Never = append(p.Never, bothOpen())
			}
		}
	}
	o, c := lit(0, true), lit(0, false)
	checkChanges(t, []change{
		{"none", never(), true}, {"32 sets", many(32), true}, {"33 sets", many(33), false},
		{"an empty set", never(bothOpen(), nil), false}, {"4 literals", never([]api.Lit{o, o, o, c}), true}, {"5 literals", never([]api.Lit{o, o, o, o, o}), false},
		{"a valve below 0", never([]api.Lit{o, lit(-1, true)}), false}, {"a valve behind the last", never([]api.Lit{o, lit(2, true)}), false},
		{"a closed valve", never([]api.Lit{c}), false}, {"an open valve", never([]api.Lit{o}), true},
		{"closed, and another one open", never([]api.Lit{c, lit(1, true)}), true}, {"both closed", never([]api.Lit{c, lit(1, false)}), false},
		{"the last set", never([]api.Lit{o}, bothOpen(), []api.Lit{c}), false},
		{"closed, but open at first", func(p *api.Plant) { p.Valves[0].Open, p.Never = true, [][]api.Lit{{c}} }, true},
		{"open, and open at first", func(p *api.Plant) { p.Valves[0].Open, p.Never = true, [][]api.Lit{{o}} }, false},
		{"open, and one of both open at first", func(p *api.Plant) { p.Valves[0].Open = true }, true},
	})
	if !engine.CheckPlant(utmost()) || engine.CheckPlant(api.Plant{}) {
		t.Error("the greatest plant, or the empty one")
	}
}

// TestSequences: P7.1, P7.5.
func TestSequences(t *testing.T) {
	steps := func(at ...int) []api.Step {
		var l []api.Step
		for _, n := range at {
			l = append(l, api.Step{At: n})
		}
		return l
	}
	orders := func(n, last int) []api.Order { return append(make([]api.Order, n-1), open(last)) }
	needs := func(n int, last api.Need) []api.Need { return append(make([]api.Need, n-1), last) }
	redlines := func(n int, last api.Redline) []api.Redline { return append(make([]api.Redline, n-1), last) }
	step := func(s api.Step) api.Sequence { return api.Sequence{Steps: []api.Step{{}, s}} }
	need := func(kind, of int) api.Need { return api.Need{Kind: kind, Of: of, Low: 1 << 62, High: -1 << 62} }
	for _, c := range []struct {
		what  string
		q     api.Sequence
		valid bool
	}{
		{"empty", api.Sequence{}, true},
		{"64 steps", api.Sequence{Steps: make([]api.Step, 64)}, true}, {"65 steps", api.Sequence{Steps: make([]api.Step, 65)}, false},
		{"rising", api.Sequence{Steps: steps(0, 0, 1, 1, 10000, 10000)}, true}, {"falling", api.Sequence{Steps: steps(0, 2, 1)}, false},
		{"At below 0", api.Sequence{Steps: steps(-1)}, false}, {"At too late", api.Sequence{Steps: steps(0, 10001)}, false},
		{"16 orders", step(api.Step{Orders: orders(16, 1)}), true}, {"17 orders", step(api.Step{Orders: orders(17, 1)}), false},
		{"an order for no valve", step(api.Step{Orders: orders(2, 2)}), false}, {"an order for a valve below 0", step(api.Step{Orders: orders(1, -1)}), false},
		{"16 needs", step(api.Step{Needs: needs(16, need(3, 1))}), true}, {"17 needs", step(api.Step{Needs: needs(17, need(3, 1))}), false},
		{"a wrong need", step(api.Step{Needs: needs(2, need(3, 2))}), false},
		{"16 redlines", api.Sequence{Redlines: redlines(16, api.Redline{Need: need(1, 1), Ticks: 10000})}, true}, {"17 redlines", api.Sequence{Redlines: make([]api.Redline, 17)}, false},
		{"a wrong redline", api.Sequence{Redlines: redlines(2, api.Redline{Need: need(0, 2)})}, false},
		{"Ticks below 0", api.Sequence{Redlines: redlines(2, api.Redline{Ticks: -1})}, false}, {"too many Ticks", api.Sequence{Redlines: redlines(1, api.Redline{Ticks: 10001})}, false},
		{"an abort of 16", api.Sequence{Abort: orders(16, 1)}, true}, {"an abort of 17", api.Sequence{Abort: orders(17, 1)}, false},
		{"an abort with a wrong order", api.Sequence{Abort: orders(16, 2)}, false}, {"an abort with an order below 0", api.Sequence{Abort: orders(1, -1)}, false},
	} {
		if got := engine.CheckSequence(example(), c.q); got != c.valid {
			t.Errorf("%s: %v", c.what, got)
		}
		wanted := api.OK
		if !c.valid {
			wanted = api.ErrArg
		}
		ended, e := start(t, example()).Run(c.q, nil)
		wantError(t, "Run: "+c.what, e, wanted)
		if e != api.OK && ended != (api.Ended{}) {
			t.Errorf("Run: %s: %v", c.what, ended)
		}
		if engine.CheckSequence(api.Plant{}, c.q) {
			t.Errorf("%s: valid for no plant", c.what)
		}
	}
}

// TestNeeds: P7.1, P7.4; a need is of something that the plant has, whatever Low and High are.
func TestNeeds(t *testing.T) {
	p := example()
	p.Tanks = append(p.Tanks, api.Tank{Name: "c", Room: 1, Least: 1})
	p.Valves = append(p.Valves, api.Valve{Name: "x", Travel: 1}, api.Valve{Name: "y", Travel: 1})
	counts := []int{content: 3, pressure: 3, carried: 2, place: 4} // tanks, tanks, lines, valves
	s := start(t, p)
	for kind := -2; kind <= 5; kind++ {
		for of := -2; of <= 6; of++ {
			valid := kind >= 0 && kind < 4 && of >= 0 && of < counts[kind]
			n := api.Need{Kind: kind, Of: of, Low: 5, High: -5}
			wanted := api.OK
			if !valid {
				wanted = api.ErrArg
			}
			x, e := s.Number(n)
			if x != 0 || e != wanted {
				t.Errorf("Number of %v: %d, error %d; want error %d", n, x, e, wanted)
			}
			for _, q := range []api.Sequence{{Steps: []api.Step{{Needs: []api.Need{n}}}}, {Redlines: []api.Redline{{Need: n}}}} {
				if engine.CheckSequence(p, q) != valid {
					t.Errorf("%v: %v", q, !valid)
				}
			}
		}
	}
}
