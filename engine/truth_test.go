package engine_test

import (
	"testing"

	"ullage/api"
	"ullage/engine"
)

// mess does something to a system, whatever it is.
func (s *sample) mess(x *engine.System, p api.Plant) {
	v, i := s.below(len(p.Valves)), s.below(len(p.Tanks))
	switch s.below(12) {
	case 0:
		x.Stick(v, s.yes(2))
	case 1:
		x.Leak(i, s.mass(p.Tanks[i].Room))
	case 2:
		x.Put(i, s.mass(p.Tanks[i].Room), s.mass(1000))
	case 3:
		x.Run(s.sequence(p), s.disorders(p))
	case 4, 5, 6:
		x.Tick()
	default:
		x.Order(s.order(len(p.Valves)))
	}
}

// TestNever: P7.8, P0.6; no set of Never holds, whatever happens.
func TestNever(t *testing.T) {
	r := &sample{5}
	sets, plants := 0, []api.Plant{utmost()}
	for range 600 {
		plants = append(plants, r.plant(3, 6, 4))
	}
	for _, p := range plants {
		sets += len(p.Never)
		s := start(t, p)
		for range 200 {
			r.mess(s, p)
			for _, l := range p.Never {
				if s.Holds(l) {
					t.Fatalf("%v holds in %v", l, p)
				}
			}
		}
	}
	if sets < 500 {
		t.Errorf("%d sets", sets)
	}
}

// ledger is what was put into each tank, and what lines, leaks and vents had brought and taken by then.
type ledger struct{ content, gas []int }

// gasOf returns the gas of a tank from its pressure: with an ullage up to 100 there is only one that fits.
func gasOf(t *testing.T, s *engine.System, p api.Plant, i int) int {
	t.Helper()
	by := max(p.Tanks[i].Least, p.Tanks[i].Room-numberOf(t, s, content, i))
	return (numberOf(t, s, pressure, i)*by + 99) / 100
}

// came returns what has come into a tank less what has gone from it, by the system's own account.
func came(s *engine.System, p api.Plant, tank int, gas bool) int {
	n := -s.Lost()[tank]
	if gas {
		n = -s.Vented()[tank]
	}
	for i, c := range s.Carried() {
		if p.Lines[i].Gas != gas {
			continue
		}
		if p.Lines[i].To == tank {
			n += c
		}
		if p.Lines[i].From == tank {
			n -= c
		}
	}
	return n
}

// TestNothingIsLost: P7.9.
func TestNothingIsLost(t *testing.T) {
	r := &sample{6}
	for range 500 {
		p := r.plant(4, 3, 8)
		p.Never = nil
		for i := range p.Tanks {
			p.Tanks[i].Room, p.Tanks[i].Least, p.Tanks[i].Limit = r.from(1, 100), r.from(1, 100), r.from(0, 2000)
		}
		s := start(t, p)
		n := len(p.Tanks)
		put := ledger{make([]int, n), make([]int, n)}
		for range 60 {
			i := r.below(n)
			switch r.below(8) {
			case 0:
				liquid, gas := r.mass(p.Tanks[i].Room), r.mass(1000)
				do(t, "Put", s.Put(i, liquid, gas))
				put.content[i], put.gas[i] = liquid-came(s, p, i, false), gas-came(s, p, i, true)
			case 1:
				do(t, "Leak", s.Leak(i, r.mass(20)))
			case 2, 3:
				do(t, "Order", s.Order(r.order(len(p.Valves))))
			default:
				ticks(t, s, 1)
				checkLimits(t, s, p)
			}
			checkLedger(t, s, p, put)
		}
	}
}

// checkLimits checks that no pressure is above its limit.
func checkLimits(t *testing.T, s *engine.System, p api.Plant) {
	t.Helper()
	for i, x := range p.Tanks {
		if n := numberOf(t, s, pressure, i); n > x.Limit {
			t.Fatalf("pressure %d above %d", n, x.Limit)
		}
	}
}

// checkLedger checks that each tank has what was put, and what has come and gone.
func checkLedger(t *testing.T, s *engine.System, p api.Plant, put ledger) {
	t.Helper()
	for i, x := range p.Tanks {
		if n := numberOf(t, s, content, i); n < 0 || n > x.Room || n != put.content[i]+came(s, p, i, false) {
			t.Fatalf("content %d, not %d", n, put.content[i]+came(s, p, i, false))
		}
		if n := gasOf(t, s, p, i); n < 0 || n != put.gas[i]+came(s, p, i, true) {
			t.Fatalf("gas %d, not %d", n, put.gas[i]+came(s, p, i, true))
		}
	}
}

// TestPathLeads: P7.10; the orders of a path, with ticks behind each one, lead to the goal.
func TestPathLeads(t *testing.T) {
	r := &sample{7}
	led := 0
	for range 600 {
		p := r.maze(r.from(2, 5))
		goal := r.goal(p)
		orders, e := engine.Path(p, goal)
		s := start(t, p)
		if e == api.ErrNone {
			checkNowhere(t, r, s, p, goal)
			continue
		}
		for _, o := range orders {
			do(t, "an order of a path", s.Order(o))
			ticks(t, s, 3)
		}
		for _, l := range goal {
			if x, _ := s.Wanted(l.Valve); x != l.Open || !s.Holds(goal) || s.Holds([]api.Lit{lit(l.Valve, !l.Open)}) {
				t.Fatalf("%v does not lead to %v in %v", orders, goal, p)
			}
		}
		if len(orders) > 1 {
			led++
		}
	}
	if led < 100 {
		t.Errorf("%d paths", led)
	}
}

// checkNowhere checks of some orders and ticks that they do not lead to a goal.
func checkNowhere(t *testing.T, r *sample, s *engine.System, p api.Plant, goal []api.Lit) {
	t.Helper()
	for range 100 {
		s.Order(r.order(len(p.Valves)))
		ticks(t, s, r.below(4))
		there := s.Holds(goal)
		for _, l := range goal {
			x, _ := s.Wanted(l.Valve)
			there = there && x == l.Open && !s.Holds([]api.Lit{lit(l.Valve, !l.Open)})
		}
		if there {
			t.Fatalf("%v is reached in %v", goal, p)
		}
	}
}

// TestRedlinesEnd: P7.11; a redline whose need is never kept ends a sequence in time.
func TestRedlinesEnd(t *testing.T) {
	r := &sample{8}
	in := 0
	for range 2000 {
		p := r.plant(2, 4, 3)
		s, q := start(t, p), r.sequence(p)
		n := r.below(8)
		q.Redlines = append(q.Redlines, api.Redline{Need: api.Need{Kind: place, Low: 9, High: 9}, Ticks: n})
		end, e := s.Run(q, r.disorders(p))
		if end.At > n || e != api.OK || end.At == n && end.Why != 1 && end.Why != 3 {
			t.Fatalf("%v, error %d, with %d ticks", end, e, n)
		}
		if end.Why == 3 && end.At == n {
			in++
		}
	}
	if in < 200 {
		t.Errorf("%d redlines", in)
	}
}

// TestAbortsArrive: P7.11; behind an abort each valve that does not stick comes to where it was ordered last.
func TestAbortsArrive(t *testing.T) {
	r := &sample{9}
	arrived := 0
	for range 3000 {
		p := r.plant(2, 4, 3)
		s, q, l := start(t, p), r.sequence(p), r.disorders(p)
		end, e := s.Run(q, l)
		if e != api.OK || end.Why == 0 || end.Refused > 0 {
			continue
		}
		ticks(t, s, 3)
		wanted := map[int]int{}
		for _, o := range q.Abort {
			wanted[o.Valve] = 0
			if o.Open {
				wanted[o.Valve] = p.Valves[o.Valve].Travel
			}
		}
		for _, d := range l {
			if d.Kind == 0 && d.At <= end.At {
				delete(wanted, d.Of)
			}
		}
		for v, n := range wanted {
			wantNumber(t, s, place, v, n)
			arrived++
		}
	}
	if arrived < 300 {
		t.Errorf("%d valves", arrived)
	}
}

// TestLeaksAreFound: P7.12; the true loss is from low to high, and may be either one.
func TestLeaksAreFound(t *testing.T) {
	r := &sample{10}
	sure := 0
	for range 5000 {
		in, out, off, meter := r.mass(2000), r.mass(2000), r.mass(20), r.mass(20)
		was, is := r.from(5000, 9000), r.from(5000, 9000)
		loss := was + in - out - is
		before, after := was+r.from(-off, off), is+r.from(-off, off)
		low, high, e := engine.Loss(before, after, in+r.from(-meter, meter)+meter, out+meter, off, meter)
		if e != api.OK || low > loss || high < loss {
			t.Fatalf("%d is not from %d to %d, error %d", loss, low, high, e)
		}
		if low > 0 {
			sure++
		}
		least, _, _ := engine.Loss(was+off, is-off, in+2*meter, out+meter, off, meter)
		_, most, _ := engine.Loss(was-off, is+off, in, out+meter, off, meter)
		if least != loss || most != loss {
			t.Fatalf("%d and %d, not %d", least, most, loss)
		}
	}
	if sure < 1000 {
		t.Errorf("%d sure leaks", sure)
	}
}

// wild returns any number, often one at an edge.
func (s *sample) wild() int {
	l := []int{-1 << 63, -1, 0, 1, 2, 3, 8, 9, 16, 10000, 10001, api.MaxMass, api.MaxMass + 1, 1<<63 - 1, int(s.next())}
	return l[s.below(len(l))]
}

// TestWild: P0.1; nothing panics, whatever the arguments are.
func TestWild(t *testing.T) {
	r := &sample{11}
	for range 3000 {
		p := r.plant(3, 3, 3)
		i, v := r.below(len(p.Tanks)), r.below(len(p.Valves))
		switch r.below(6) {
		case 0:
			p.Tanks[i].Room, p.Tanks[i].Least = r.wild(), r.wild()
		case 1:
			p.Valves[v].Travel = r.wild()
		case 2:
			p.Lines = append(p.Lines, api.Line{From: r.wild(), To: r.wild(), Flow: r.wild(), Valves: []int{r.wild()}})
		case 3:
			p.Never = append(p.Never, []api.Lit{lit(r.wild(), true)})
		}
		order, need := api.Order{Valve: r.wild()}, api.Need{Kind: r.wild(), Of: r.wild(), Low: r.wild(), High: r.wild()}
		q := api.Sequence{
			Steps:    []api.Step{{At: r.wild(), Orders: []api.Order{order}, Needs: []api.Need{need}}},
			Redlines: []api.Redline{{Need: need, Ticks: r.wild()}},
			Abort:    []api.Order{order},
		}
		engine.CheckPlant(p)
		engine.CheckSequence(p, q)
		engine.Path(p, []api.Lit{lit(r.wild(), true)})
		engine.Loss(r.wild(), r.wild(), r.wild(), r.wild(), r.wild(), r.wild())
		s, _ := engine.New(p)
		s.Put(r.wild(), r.wild(), r.wild())
		s.Order(order)
		s.Stick(r.wild(), true)
		s.Leak(r.wild(), r.wild())
		s.Number(need)
		s.Wanted(r.wild())
		s.Holds([]api.Lit{lit(r.wild(), true)})
		s.Run(q, []api.Disorder{{At: r.wild(), Kind: r.wild(), Of: r.wild(), Rate: r.wild()}})
		s.Run(api.Sequence{Steps: []api.Step{{At: 3}}}, []api.Disorder{{At: r.below(3), Kind: r.below(2), Of: 0, Rate: r.wild()}})
	}
}

// TestLongest: P0.1; the longest run of the greatest plant ends.
func TestLongest(t *testing.T) {
	p := utmost()
	s := start(t, p)
	q := api.Sequence{Steps: make([]api.Step, api.MaxSteps), Redlines: make([]api.Redline, 16)}
	for i := range q.Redlines {
		q.Redlines[i] = api.Redline{Need: api.Need{Kind: place, Low: 9}, Ticks: api.MaxTicks}
	}
	q.Steps[api.MaxSteps-1].At = api.MaxTicks - 1
	wantEnd(t, "the longest run", s, q, make([]api.Disorder, 64), api.Ended{At: api.MaxTicks - 1})
	q.Steps[api.MaxSteps-1].At = api.MaxTicks
	wantEnd(t, "a redline at the last tick", s, q, nil, api.Ended{Why: 3, At: api.MaxTicks})
}
