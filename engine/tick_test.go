package engine_test

import (
	"testing"

	"ullage/api"
	"ullage/engine"
)

// TestExample: P7.4, the chapter's first example.
func TestExample(t *testing.T) {
	s := start(t, example())
	do(t, "Put", s.Put(0, 80, 0))
	do(t, "open v", s.Order(open(0)))
	do(t, "open w", s.Order(open(1)))
	ticks(t, s, 2)
	wantNumber(t, s, content, 0, 50)
	wantNumber(t, s, content, 1, 30)
	wantNumber(t, s, pressure, 0, 200)
	wantList(t, "carried", s.Carried(), []int{30, 100})
}

// pipe is a plant of three tanks with one line, whose only valve is open.
func pipe(l api.Line) api.Plant {
	tank := api.Tank{Room: 100, Least: 1, Limit: api.MaxMass}
	p := api.Plant{Valves: []api.Valve{{Name: "v", Travel: 1, Open: true}}, Lines: []api.Line{l}}
	for i := range 3 {
		tank.Name = name(i, 1)
		p.Tanks = append(p.Tanks, tank)
	}
	p.Lines[0].Valves = []int{0}
	return p
}

// TestCarry: P7.4; a line carries as much as its flow, what there is, and what there is room for allow.
func TestCarry(t *testing.T) {
	for _, c := range []struct {
		what                 string
		line                 api.Line
		from, to, moved, gas int // what From and To have at first, and whether it is gas
	}{
		{"the flow", api.Line{From: 0, To: 1, Flow: 30}, 80, 20, 30, 0},
		{"all that there is", api.Line{From: 0, To: 1, Flow: 30}, 29, 20, 29, 0},
		{"nothing", api.Line{From: 0, To: 1, Flow: 30}, 0, 20, 0, 0},
		{"the room", api.Line{From: 0, To: 1, Flow: 30}, 80, 71, 29, 0},
		{"no room", api.Line{From: 0, To: 1, Flow: 30}, 80, 100, 0, 0},
		{"downwards", api.Line{From: 2, To: 0, Flow: 100}, 50, 60, 40, 0},
		{"from outside", api.Line{From: -1, To: 2, Flow: 30}, 0, 60, 30, 0},
		{"from outside into what is almost full", api.Line{From: -1, To: 2, Flow: 30}, 0, 99, 1, 0},
		{"outwards", api.Line{From: 1, To: -1, Flow: 30}, 60, 0, 30, 0},
		{"the rest outwards", api.Line{From: 1, To: -1, Flow: api.MaxMass}, 60, 0, 60, 0},
		{"gas", api.Line{From: 0, To: 1, Flow: 30, Gas: true}, 80, 2000, 30, 1},
		{"all gas", api.Line{From: 0, To: 1, Flow: 30, Gas: true}, 10, 2000, 10, 1},
		{"gas up to the greatest mass", api.Line{From: 0, To: 1, Flow: 30, Gas: true}, 1000, api.MaxMass - 3, 3, 1},
		{"gas from outside", api.Line{From: -1, To: 1, Flow: api.MaxMass, Gas: true}, 0, 1, api.MaxMass - 1, 1},
		{"gas outwards", api.Line{From: 1, To: -1, Flow: 400, Gas: true}, 300, 0, 300, 1},
	} {
		s := start(t, pipe(c.line))
		put := func(tank, n int) {
			if tank >= 0 && c.gas == 1 {
				do(t, c.what, s.Put(tank, 99, n)) // an ullage of 1: the pressure is 100 times the gas
			} else if tank >= 0 {
				do(t, c.what, s.Put(tank, n, 0))
			}
		}
		has := func(tank, n int) {
			t.Helper()
			if tank >= 0 && c.gas == 1 {
				wantNumber(t, s, pressure, tank, min(n*100, api.MaxMass/100*100))
			} else if tank >= 0 {
				wantNumber(t, s, content, tank, n)
			}
		}
		put(c.line.From, c.from)
		put(c.line.To, c.to)
		ticks(t, s, 1)
		wantList(t, c.what, s.Carried(), []int{c.moved})
		has(c.line.From, c.from-c.moved)
		has(c.line.To, c.to+c.moved)
	}
}

// TestValvesOfLines: P7.4; a line carries nothing unless all of its valves are open to the end, in the very tick in which the last one comes to be.
func TestValvesOfLines(t *testing.T) {
	p := example()
	p.Valves[0].Travel, p.Valves[1].Travel = 3, 2
	p.Valves = append(p.Valves, api.Valve{Name: "x", Travel: 1, Open: true})
	p.Lines = []api.Line{{From: 0, To: 1, Flow: 1, Valves: []int{2, 0, 1}}, {From: 0, To: 1, Flow: 1, Valves: []int{1, 1, 1, 1}}}
	s := start(t, p)
	do(t, "Put", s.Put(0, 100, 0))
	do(t, "open", s.Order(open(0)))
	do(t, "open", s.Order(open(1)))
	for _, wanted := range [][]int{{0, 0}, {0, 1}, {1, 2}, {2, 3}} {
		ticks(t, s, 1)
		wantList(t, "carried", s.Carried(), wanted)
	}
	do(t, "close", s.Order(closed(1)))
	ticks(t, s, 1)
	wantList(t, "carried", s.Carried(), []int{2, 3})
	do(t, "open", s.Order(open(1)))
	ticks(t, s, 1)
	wantList(t, "carried", s.Carried(), []int{3, 4})
	do(t, "close", s.Order(closed(2)))
	ticks(t, s, 1)
	wantList(t, "carried", s.Carried(), []int{3, 5})
}

// TestLinesInOrder: P7.4; what a line brings is there for the lines behind it, and what leaks is lost behind all of them.
func TestLinesInOrder(t *testing.T) {
	line := func(from, to, flow int) api.Line {
		return api.Line{From: from, To: to, Flow: flow, Valves: []int{0}}
	}
	p := pipe(line(0, 1, 60))
	p.Lines = append(p.Lines, line(1, 2, 50), line(0, 2, 100), line(2, 0, 7))
	s := start(t, p)
	do(t, "Put", s.Put(0, 80, 0))
	do(t, "Leak", s.Leak(0, 5))
	do(t, "Leak", s.Leak(1, 100))
	ticks(t, s, 1)
	wantList(t, "carried", s.Carried(), []int{60, 50, 20, 7})
	wantList(t, "lost", s.Lost(), []int{5, 10, 0})
	for i, n := range []int{2, 0, 63} {
		wantNumber(t, s, content, i, n)
	}
}

// TestPressure: P7.4; the greater one of Least and of what is left of Room, and rounding.
func TestPressure(t *testing.T) {
	for _, c := range []struct{ room, least, content, gas, wanted int }{
		{100, 10, 0, 1, 1}, {100, 10, 0, 3, 3}, {101, 10, 0, 1, 0}, {100, 10, 90, 1, 10}, {100, 10, 91, 1, 10}, {100, 10, 89, 1, 9},
		{100, 10, 100, 7, 70}, {100, 500, 0, 7, 1}, {100, 500, 100, 9, 1}, {100, 1, 97, 2, 66}, {3, 1, 0, 2, 66},
		{api.MaxMass, 1, api.MaxMass, api.MaxMass, api.MaxMass * 100}, {api.MaxMass, 1, 0, api.MaxMass, 100}, {1, api.MaxMass, 1, api.MaxMass - 1, 99},
	} {
		s := start(t, api.Plant{Tanks: []api.Tank{{Name: "a", Room: c.room, Least: c.least}}, Valves: []api.Valve{{Name: "v", Travel: 1}}})
		do(t, "Put", s.Put(0, c.content, c.gas))
		wantNumber(t, s, pressure, 0, c.wanted)
	}
}

// TestVent: P7.4; as little gas goes as makes the pressure at most the limit, which it may be.
func TestVent(t *testing.T) {
	for _, c := range []struct{ room, least, limit, content, gas, vented int }{
		{100, 10, 500, 0, 500, 0}, {100, 10, 500, 0, 501, 1}, {100, 10, 500, 95, 100, 50}, {100, 10, 500, 90, 50, 0}, {100, 10, 500, 90, 51, 1},
		{3, 1, 66, 0, 2, 0}, {3, 1, 65, 0, 2, 1}, {3, 1, 33, 0, 2, 1}, {3, 1, 32, 0, 2, 2},
		{100, 1, 0, 0, 1, 1}, {101, 1, 0, 0, 1, 0}, {101, 1, 0, 0, 2, 1}, {250, 1, 0, 0, 2, 0}, {250, 1, 0, 0, 3, 1}, {99, 1, 0, 0, 1, 1},
		{1, 1, 99, 0, 5, 5}, {1, 1, 100, 0, 5, 4},
		{api.MaxMass, 1, 99, 0, api.MaxMass, 1}, {api.MaxMass, 1, 100, 0, api.MaxMass, 0}, {1, api.MaxMass, 50, 0, api.MaxMass, api.MaxMass - 547608330},
		{1, 1, api.MaxMass, 1, api.MaxMass, api.MaxMass - 10737418},
	} {
		s := start(t, api.Plant{Tanks: []api.Tank{{Name: "a", Room: c.room, Least: c.least, Limit: c.limit}}, Valves: []api.Valve{{Name: "v", Travel: 1}}})
		do(t, "Put", s.Put(0, c.content, c.gas))
		ticks(t, s, 1)
		wantList(t, "vented", s.Vented(), []int{c.vented})
		if n, e := s.Number(api.Need{Kind: pressure}); n > c.limit || n != (c.gas-c.vented)*100/max(c.least, c.room-c.content) || e != api.OK {
			t.Errorf("%v: pressure %d, error %d", c, n, e)
		}
	}
}

// TestVentBehindLeak: P7.4; what has leaked makes room before gas is vented.
func TestVentBehindLeak(t *testing.T) {
	s := start(t, example())
	do(t, "Put", s.Put(0, 90, 100))
	do(t, "Leak", s.Leak(0, 10))
	ticks(t, s, 1)
	wantList(t, "vented", s.Vented(), []int{0, 0})
	wantNumber(t, s, pressure, 0, 500)
	do(t, "Put", s.Put(0, 85, 100))
	do(t, "open w", s.Order(open(1)))
	ticks(t, s, 1)
	wantList(t, "carried", s.Carried(), []int{0, 50})
	wantList(t, "vented", s.Vented(), []int{25, 0})
	wantNumber(t, s, pressure, 0, 500)
}

// numberOf returns the number of a need.
func numberOf(t *testing.T, s *engine.System, kind, of int) int {
	t.Helper()
	n, e := s.Number(api.Need{Kind: kind, Of: of})
	do(t, "Number", e)
	return n
}

// TestLoss: P7.7.
func TestLoss(t *testing.T) {
	const most = api.MaxMass
	for _, c := range []struct {
		before, after, in, out, off, meter, low, high int
		e                                             api.Errno
	}{
		{100, 60, 0, 30, 1, 2, 6, 14, api.OK},
		{0, 0, 0, 0, 0, 0, 0, 0, api.OK},
		{60, 100, 30, 0, 3, 1, -17, -3, api.OK},
		{1, 20, 300, 4000, 0, 0, -3719, -3719, api.OK},
		{most, 0, most, 0, most, most, -most, 5 * most, api.OK},
		{0, most, 0, most, most, most, -5 * most, most, api.OK},
	} {
		low, high, e := engine.Loss(c.before, c.after, c.in, c.out, c.off, c.meter)
		if low != c.low || high != c.high || e != c.e {
			t.Errorf("%v: %d, %d, error %d", c, low, high, e)
		}
	}
	for i := range 6 {
		for _, wrong := range []int{-1, most + 1, -1 << 63, 1<<63 - 1} {
			var n [6]int
			n[i] = wrong
			low, high, e := engine.Loss(n[0], n[1], n[2], n[3], n[4], n[5])
			if low != 0 || high != 0 || e != api.ErrRange {
				t.Errorf("%v: %d, %d, error %d", n, low, high, e)
			}
		}
	}
}
