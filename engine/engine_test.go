package engine_test

import (
	"testing"

	"ullage/api"
	"ullage/engine"
)

// TestFirst: P7.2, the first state.
func TestFirst(t *testing.T) {
	p := example()
	p.Valves[0].Open = true
	s := start(t, p)
	for i := range 2 {
		wantNumber(t, s, content, i, 0)
		wantNumber(t, s, pressure, i, 0)
		wantNumber(t, s, carried, i, 0)
	}
	wantNumber(t, s, place, 0, 2)
	wantNumber(t, s, place, 1, 0)
	for i, wanted := range []bool{true, false} {
		if x, e := s.Wanted(i); x != wanted || e != api.OK {
			t.Errorf("valve %d is wanted open: %v, error %d", i, x, e)
		}
	}
	wantList(t, "carried", s.Carried(), []int{0, 0})
	wantList(t, "lost", s.Lost(), []int{0, 0})
	wantList(t, "vented", s.Vented(), []int{0, 0})
	ticks(t, s, 1)
	wantNumber(t, s, place, 0, 2)
	wantNumber(t, s, place, 1, 0)
}

// TestPut: P7.2.
func TestPut(t *testing.T) {
	s := start(t, example())
	do(t, "Put", s.Put(1, 30, 40))
	for _, c := range []struct {
		tank, content, gas int
		e                  api.Errno
	}{
		{-1, 0, 0, api.ErrNone}, {2, -1, 0, api.ErrNone}, {-1 << 63, 0, 0, api.ErrNone}, {1<<63 - 1, 0, 0, api.ErrNone},
		{1, -1, 0, api.ErrRange}, {1, 101, 0, api.ErrRange}, {1, 0, -1, api.ErrRange}, {1, 0, api.MaxMass + 1, api.ErrRange},
	} {
		wantError(t, "Put", s.Put(c.tank, c.content, c.gas), c.e)
	}
	wantNumber(t, s, content, 1, 30)
	wantNumber(t, s, pressure, 1, 4000/70)
	wantNumber(t, s, content, 0, 0)
	do(t, "Put", s.Put(0, 100, api.MaxMass))
	wantNumber(t, s, content, 0, 100)
	wantNumber(t, s, pressure, 0, api.MaxMass*10)
	do(t, "Put", s.Put(0, 0, 0))
	wantNumber(t, s, content, 0, 0)
	wantNumber(t, s, pressure, 0, 0)
	wantList(t, "lost", s.Lost(), []int{0, 0})
	wantList(t, "vented", s.Vented(), []int{0, 0})
}

// TestInterlock: P7.3; the chapter's examples of its second plant.
func TestInterlock(t *testing.T) {
	s := start(t, example(bothOpen()))
	do(t, "open v", s.Order(open(0)))
	wantError(t, "open w", s.Order(open(1)), api.ErrState)
	do(t, "close v", s.Order(closed(0)))
	do(t, "open w", s.Order(open(1)))
	wantError(t, "open v", s.Order(open(0)), api.ErrState)

	s = start(t, example(bothOpen()))
	do(t, "open v", s.Order(open(0)))
	ticks(t, s, 1)
	do(t, "close v", s.Order(closed(0)))
	wantError(t, "open w, while v is not closed", s.Order(open(1)), api.ErrState)
	if x, e := s.Wanted(1); x || e != api.OK {
		t.Error("a refused order is obeyed")
	}
	ticks(t, s, 1)
	wantNumber(t, s, place, 1, 0)
	do(t, "open w, now that v is closed", s.Order(open(1)))
}

// TestOrders: P7.3; orders for what is wanted already, for a valve on its way, and for no valve.
func TestOrders(t *testing.T) {
	p := example([]api.Lit{lit(1, true), lit(0, false)})
	p.Valves[0].Travel = 3
	s := start(t, p)
	wantError(t, "open w, while v is closed", s.Order(open(1)), api.ErrState)
	do(t, "close v, which is", s.Order(closed(0)))
	do(t, "close w, which is", s.Order(closed(1)))
	do(t, "open v", s.Order(open(0)))
	do(t, "open v again", s.Order(open(0)))
	ticks(t, s, 2)
	wantNumber(t, s, place, 0, 2)
	wantError(t, "open w, while v is not open", s.Order(open(1)), api.ErrState)
	ticks(t, s, 1)
	do(t, "open w", s.Order(open(1)))
	wantError(t, "close v", s.Order(closed(0)), api.ErrState)
	wantError(t, "close v, with w wanted open", s.Order(closed(0)), api.ErrState)
	for _, v := range []int{-1, 2, 1<<63 - 1, -1 << 63} {
		wantError(t, "Order", s.Order(open(v)), api.ErrNone)
		if x, e := s.Wanted(v); x || e != api.ErrNone {
			t.Errorf("Wanted: %v, error %d", x, e)
		}
		wantError(t, "Stick", s.Stick(v, true), api.ErrNone)
	}
	if x, _ := s.Wanted(0); !x {
		t.Error("v is wanted closed")
	}
}

// TestImpossible: P7.3; a valve that must not be on its way never leaves its place.
func TestImpossible(t *testing.T) {
	for _, l := range [][]api.Lit{{lit(0, true)}, {lit(0, true), lit(0, false)}, {lit(0, true), lit(1, false)}} {
		s := start(t, example(l))
		wantError(t, "open v", s.Order(open(0)), api.ErrState)
		do(t, "close v", s.Order(closed(0)))
	}
}

// TestStick: P7.3; a valve that sticks takes orders, but does not move.
func TestStick(t *testing.T) {
	s := start(t, example(bothOpen()))
	do(t, "open v", s.Order(open(0)))
	ticks(t, s, 1)
	do(t, "v sticks", s.Stick(0, true))
	do(t, "v sticks still", s.Stick(0, true))
	ticks(t, s, 3)
	wantNumber(t, s, place, 0, 1)
	do(t, "close v", s.Order(closed(0)))
	ticks(t, s, 3)
	wantNumber(t, s, place, 0, 1)
	wantError(t, "open w", s.Order(open(1)), api.ErrState)
	do(t, "w does not stick", s.Stick(1, false))
	do(t, "v does not stick", s.Stick(0, false))
	ticks(t, s, 1)
	wantNumber(t, s, place, 0, 0)
	do(t, "open w", s.Order(open(1)))
}

// TestLeak: P7.3.
func TestLeak(t *testing.T) {
	s := start(t, example())
	do(t, "Put", s.Put(0, 50, 0))
	do(t, "Put", s.Put(1, 50, 0))
	do(t, "Leak", s.Leak(1, 20))
	for _, c := range []struct {
		tank, rate int
		e          api.Errno
	}{{-1, 1, api.ErrNone}, {2, -1, api.ErrNone}, {1, -1, api.ErrRange}, {1, api.MaxMass + 1, api.ErrRange}} {
		wantError(t, "Leak", s.Leak(c.tank, c.rate), c.e)
	}
	ticks(t, s, 2)
	wantNumber(t, s, content, 1, 10)
	do(t, "Leak", s.Leak(0, api.MaxMass))
	ticks(t, s, 1)
	wantNumber(t, s, content, 0, 0)
	wantNumber(t, s, content, 1, 0)
	do(t, "Put", s.Put(1, 100, 0))
	do(t, "no leak", s.Leak(1, 0))
	ticks(t, s, 2)
	wantNumber(t, s, content, 1, 100)
	wantList(t, "lost", s.Lost(), []int{50, 50})
}

// TestStrangers: P7.2 to P7.5, R3; what New did not return is no system, and ErrNil comes first.
func TestStrangers(t *testing.T) {
	for what, s := range strangers(t) {
		wrong := api.Sequence{Steps: make([]api.Step, api.MaxSteps+1)}
		wantError(t, what+": Put", s.Put(-1, -1, -1), api.ErrNil)
		wantError(t, what+": Order", s.Order(open(-1)), api.ErrNil)
		wantError(t, what+": Stick", s.Stick(-1, true), api.ErrNil)
		wantError(t, what+": Leak", s.Leak(-1, -1), api.ErrNil)
		wantError(t, what+": Tick", s.Tick(), api.ErrNil)
		n, e := s.Number(api.Need{Kind: -1})
		wanted, e2 := s.Wanted(-1)
		ended, e3 := s.Run(wrong, nil)
		if n != 0 || wanted || ended != (api.Ended{}) || e != api.ErrNil || e2 != api.ErrNil || e3 != api.ErrNil {
			t.Error(what, n, wanted, ended, e, e2, e3)
		}
		wantError(t, what+": Put", s.Put(0, 0, 0), api.ErrNil)
		wantError(t, what+": Order", s.Order(open(0)), api.ErrNil)
		if len(s.Carried())+len(s.Lost())+len(s.Vented()) > 0 || s.Holds([]api.Lit{lit(0, false)}) {
			t.Error(what, "has something")
		}
	}
}

// TestMemory: R4; a system keeps nothing of the plant that was its argument, and gives out nothing of its own.
func TestMemory(t *testing.T) {
	p := example(bothOpen())
	before := copyOf(p)
	s := start(t, p)
	engine.CheckPlant(p)
	engine.Path(p, bothOpen()[:1])
	if !isSame(p, before) {
		t.Error("the plant has changed")
	}
	p.Tanks[0].Room, p.Valves[0].Travel, p.Lines[0].Flow, p.Lines[1].Valves[0], p.Never[0][1].Valve = 1, 1, 1, 0, 0
	do(t, "Put", s.Put(0, 80, 7))
	do(t, "open w", s.Order(open(1)))
	wantError(t, "open v", s.Order(open(0)), api.ErrState)
	ticks(t, s, 1)
	wantNumber(t, s, carried, 1, 50)
	do(t, "close w", s.Order(closed(1)))
	ticks(t, s, 1)
	do(t, "open v", s.Order(open(0)))
	ticks(t, s, 1)
	wantNumber(t, s, place, 0, 1)

	do(t, "Leak", s.Leak(0, 5))
	ticks(t, s, 1)
	s.Carried()[1], s.Lost()[0], s.Vented()[0] = 77, 77, 77
	wantList(t, "carried", s.Carried(), []int{0, 50})
	wantList(t, "lost", s.Lost(), []int{5, 0})
	wantList(t, "vented", s.Vented(), []int{0, 0})
}

// TestTwo: two systems of a plant have nothing to do with each other.
func TestTwo(t *testing.T) {
	p := example()
	a, b := start(t, p), start(t, p)
	do(t, "Put", a.Put(0, 10, 10))
	do(t, "Order", a.Order(open(1)))
	do(t, "Leak", a.Leak(0, 1))
	ticks(t, a, 1)
	ticks(t, b, 1)
	wantNumber(t, b, content, 0, 0)
	wantNumber(t, b, place, 1, 0)
	wantList(t, "carried", b.Carried(), []int{0, 0})
	wantList(t, "lost", b.Lost(), []int{0, 0})
}

// TestHolds: P7.4.
func TestHolds(t *testing.T) {
	s := start(t, example())
	do(t, "open v", s.Order(open(0)))
	holds := func(wanted bool, l ...api.Lit) {
		t.Helper()
		if s.Holds(l) != wanted {
			t.Errorf("%v: %v", l, !wanted)
		}
	}
	vo, vc, wo, wc := lit(0, true), lit(0, false), lit(1, true), lit(1, false)
	holds(false)
	holds(true, vc)
	holds(false, vo)
	holds(true, vc, wc)
	ticks(t, s, 1)
	holds(true, vo, vc)
	holds(true, vc, vo, wc, vo, vc, wc)
	holds(false, vo, wo)
	ticks(t, s, 1)
	holds(true, vo)
	holds(false, vc)
	holds(false, vo, lit(2, false))
	holds(false, lit(-1, false), vo)
	holds(false, wo, lit(2, true))
	do(t, "close v", s.Order(closed(0)))
	holds(false, vc)
	ticks(t, s, 1)
	holds(true, vc, vo)
}
