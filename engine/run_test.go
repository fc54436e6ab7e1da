package engine_test

import (
	"testing"

	"ullage/api"
	"ullage/engine"
)

// filled is a system of the example with 80 in the tank a.
func filled(t *testing.T, never ...[]api.Lit) *engine.System {
	t.Helper()
	s := start(t, example(never...))
	do(t, "Put", s.Put(0, 80, 0))
	return s
}

// wantEnd runs a sequence, and checks how it ends.
func wantEnd(t *testing.T, what string, s *engine.System, q api.Sequence, l []api.Disorder, wanted api.Ended) {
	t.Helper()
	end, e := s.Run(q, l)
	if end != wanted || e != api.OK {
		t.Errorf("%s: %v, error %d; want %v", what, end, e, wanted)
	}
}

// flow is a sequence that opens both valves, and needs 60 carried at the tick 3.
func flow() api.Sequence {
	return api.Sequence{
		Steps: []api.Step{
			{At: 0, Orders: []api.Order{open(0), open(1)}},
			{At: 3, Needs: []api.Need{{Kind: carried, Of: 0, Low: 60, High: 1000}}},
		},
		Abort: []api.Order{closed(0), closed(1)},
	}
}

// TestDone: P7.5, Why 0; a run goes on up to the last step's tick, and the abort is not given.
func TestDone(t *testing.T) {
	s := filled(t)
	wantEnd(t, "flow", s, flow(), nil, api.Ended{At: 3})
	wantNumber(t, s, carried, 0, 80)
	wantNumber(t, s, carried, 1, 200)
	wantNumber(t, s, place, 0, 2)
	if x, _ := s.Wanted(0); !x {
		t.Error("the abort was given")
	}

	s = filled(t)
	wantEnd(t, "no steps", s, api.Sequence{Abort: []api.Order{open(0)}}, nil, api.Ended{})
	if x, _ := s.Wanted(0); x {
		t.Error("the abort was given")
	}
	do(t, "open w", s.Order(open(1)))
	wantEnd(t, "no steps", s, api.Sequence{}, nil, api.Ended{})
	wantNumber(t, s, place, 1, 1)
	wantEnd(t, "a late step", s, api.Sequence{Steps: []api.Step{{At: 10000}}}, nil, api.Ended{At: 10000})
	wantNumber(t, s, carried, 1, 50*10002)
	wantEnd(t, "from 0 again", s, api.Sequence{Steps: []api.Step{{At: 4}, {At: 4}}}, nil, api.Ended{At: 4})
	wantNumber(t, s, carried, 1, 50*10007)
}

// TestRefused: P7.5, Why 1; at a refused order there is no tick, the orders before it are given, those behind it are not.
func TestRefused(t *testing.T) {
	q := api.Sequence{
		Steps: []api.Step{
			{At: 0}, {At: 2, Orders: []api.Order{open(0)}, Needs: []api.Need{{Kind: place, Low: 9, High: 9}}},
			{At: 2, Orders: []api.Order{open(0), open(1), closed(0)}}, {At: 9},
		},
		Abort: []api.Order{open(1), closed(0), open(0), open(1), open(1)},
	}
	s := filled(t, bothOpen())
	wantEnd(t, "an abort with three refused orders", s, q, nil, api.Ended{Why: 1, At: 2, Index: 2, Refused: 3})
	wantNumber(t, s, place, 0, 0)
	if x, _ := s.Wanted(0); !x {
		t.Error("v is not wanted open")
	}
	if x, _ := s.Wanted(1); x {
		t.Error("w is wanted open")
	}
	q.Abort = []api.Order{closed(0), open(1), open(0)}
	wantEnd(t, "an abort with a refused order", filled(t, bothOpen()), q, nil, api.Ended{Why: 1, At: 2, Index: 2, Refused: 1})
	q.Abort = nil
	wantEnd(t, "no abort", filled(t, bothOpen()), q, nil, api.Ended{Why: 1, At: 2, Index: 2})
}

// TestNeedsOfSteps: P7.5, Why 2; needs are asked behind the tick, step by step.
func TestNeedsOfSteps(t *testing.T) {
	need := func(low, high int) []api.Need { return []api.Need{{Kind: place, Of: 1, Low: low, High: high}} }
	q := api.Sequence{Steps: []api.Step{
		{At: 0, Orders: []api.Order{open(1)}, Needs: need(1, 1)},
		{At: 0, Needs: append(need(0, 1), need(1, 8)...)},
		{At: 1, Needs: need(-5, 5)},
	}}
	wantEnd(t, "kept", filled(t), q, nil, api.Ended{At: 1})
	q.Steps[2].Needs = append(q.Steps[2].Needs, need(2, 8)...)
	wantEnd(t, "too low", filled(t), q, nil, api.Ended{Why: 2, At: 1, Index: 2})
	q.Steps[1].Needs = append(q.Steps[1].Needs, need(0, 0)...)
	wantEnd(t, "too high", filled(t), q, nil, api.Ended{Why: 2, Index: 1})
	q.Steps[1].Needs = need(1, 0)
	wantEnd(t, "nothing is kept", filled(t), q, nil, api.Ended{Why: 2, Index: 1})
	q.Steps[0].Needs = need(-9, 0)
	q.Steps[1].Needs = need(0, 0)
	q.Abort = []api.Order{closed(1)}
	s := filled(t)
	wantEnd(t, "the first one", s, q, nil, api.Ended{Why: 2})
	if x, _ := s.Wanted(1); x {
		t.Error("the abort was not given")
	}
	wantNumber(t, s, place, 1, 1)
}

// TestRedlines: P7.5, Why 3, P7.11; a redline's count is above Ticks, one after the other, and redlines come before needs.
func TestRedlines(t *testing.T) {
	red := func(n, kind, of, low, high int) api.Redline {
		return api.Redline{Need: api.Need{Kind: kind, Of: of, Low: low, High: high}, Ticks: n}
	}
	q := flow()
	q.Redlines = []api.Redline{red(1, pressure, 0, 0, 100)} // 50 / 20 behind the tick 0
	wantEnd(t, "at its second tick", filled(t), q, nil, api.Ended{Why: 3, At: 1})
	q.Redlines = []api.Redline{red(0, pressure, 0, 0, 100)}
	wantEnd(t, "at once", filled(t), q, nil, api.Ended{Why: 3})
	q.Redlines = []api.Redline{red(10000, pressure, 0, 0, 100)}
	wantEnd(t, "never", filled(t), q, nil, api.Ended{At: 3})
	q.Redlines = []api.Redline{red(4, place, 0, 5, 5), red(3, place, 0, 5, 5), red(3, place, 0, 5, 5)}
	wantEnd(t, "the first one of two", filled(t), q, nil, api.Ended{Why: 3, At: 3, Index: 1})
	q.Steps[1].Needs[0].Low = 1000
	wantEnd(t, "before a need", filled(t), q, nil, api.Ended{Why: 3, At: 3, Index: 1})
	q.Redlines[1].Ticks = 4
	q.Redlines[2].Ticks = 4
	wantEnd(t, "a need", filled(t), q, nil, api.Ended{Why: 2, At: 3, Index: 1})
}

// TestAnew: P7.5; a redline's count begins anew when its need is kept, and in each run.
func TestAnew(t *testing.T) {
	q := api.Sequence{
		Steps:    []api.Step{{At: 2, Orders: []api.Order{open(1)}}, {At: 3, Orders: []api.Order{closed(1)}}, {At: 7}},
		Redlines: []api.Redline{{Need: api.Need{Kind: place, Of: 1, Low: 1, High: 1}, Ticks: 3}},
	}
	wantEnd(t, "not kept at 0, 1, 3, 4, 5 and 6", filled(t), q, nil, api.Ended{Why: 3, At: 6})
	q.Steps[2].At = 5
	s := filled(t)
	for range 3 {
		wantEnd(t, "not long enough", s, q, nil, api.Ended{At: 5})
	}
}

// TestDisorders: P7.5; what goes wrong does so before the orders of its tick, and stays so.
func TestDisorders(t *testing.T) {
	stick := func(at, valve int) api.Disorder { return api.Disorder{At: at, Of: valve} }
	leak := func(at, tank, rate int) api.Disorder {
		return api.Disorder{At: at, Kind: 1, Of: tank, Rate: rate}
	}
	s := filled(t)
	wantEnd(t, "v sticks", s, flow(), []api.Disorder{stick(1, 0)}, api.Ended{Why: 2, At: 3, Index: 1})
	ticks(t, s, 3)
	wantNumber(t, s, place, 0, 1)
	wantNumber(t, s, place, 1, 0)
	do(t, "v does not stick", s.Stick(0, false))
	ticks(t, s, 1)
	wantNumber(t, s, place, 0, 0)

	s = filled(t)
	wantEnd(t, "a leaks", s, flow(), []api.Disorder{stick(9, 0), leak(2, 0, 60), leak(1, 0, 20), leak(1, 0, 1)}, api.Ended{At: 3})
	wantList(t, "lost", s.Lost(), []int{20, 0}) // 1 at the tick 1, then 19 of 19
	do(t, "Put", s.Put(0, 100, 0))
	ticks(t, s, 1)
	wantList(t, "lost", s.Lost(), []int{80, 0})

	s = filled(t)
	wantEnd(t, "a leak at a refused order", start(t, example(bothOpen())), flow(), []api.Disorder{leak(0, 0, 5)}, api.Ended{Why: 1})
	wantEnd(t, "a leak in a run", s, api.Sequence{}, []api.Disorder{leak(0, 0, 5), leak(1, 0, 50)}, api.Ended{})
	wantList(t, "lost", s.Lost(), []int{5, 0})
}

// TestWrongDisorders: P7.5; with ErrArg nothing has happened.
func TestWrongDisorders(t *testing.T) {
	most := api.Disorder{At: 10000, Kind: 1, Of: 1, Rate: api.MaxMass}
	for _, c := range []struct {
		d     api.Disorder
		valid bool
	}{
		{most, true}, {api.Disorder{Of: 1, Rate: api.MaxMass}, true}, {api.Disorder{Kind: 1, Of: 1}, true},
		{api.Disorder{At: -1}, false}, {api.Disorder{At: 10001}, false}, {api.Disorder{Kind: -1}, false}, {api.Disorder{Kind: 2}, false},
		{api.Disorder{Of: 2}, false}, {api.Disorder{Of: -1}, false}, {api.Disorder{Kind: 1, Of: 3}, false}, {api.Disorder{Kind: 1, Of: -1}, false},
		{api.Disorder{Rate: -1}, false}, {api.Disorder{Rate: api.MaxMass + 1}, false}, {api.Disorder{Kind: 1, Rate: -1}, false}, {api.Disorder{Kind: 1, Rate: api.MaxMass + 1}, false},
	} {
		p := example()
		p.Tanks = append(p.Tanks, api.Tank{Name: "c", Room: 1, Least: 1})
		s := start(t, p)
		do(t, "Put", s.Put(0, 80, 0))
		end, e := s.Run(api.Sequence{}, []api.Disorder{{Kind: 1, Rate: 9}, c.d})
		if (e == api.OK) != c.valid || !c.valid && (e != api.ErrArg || end != (api.Ended{}) || s.Lost()[0] != 0) {
			t.Errorf("%v: %v, error %d", c.d, end, e)
		}
	}
	for n, wanted := range map[int]api.Errno{64: api.OK, 65: api.ErrArg} {
		_, e := filled(t).Run(api.Sequence{}, make([]api.Disorder, n))
		wantError(t, "many go wrong", e, wanted)
	}
	// Of three valves and two tanks the third is a valve only.
	p := example()
	p.Valves = append(p.Valves, api.Valve{Name: "x", Travel: 1})
	_, e := start(t, p).Run(api.Sequence{}, []api.Disorder{{Of: 2}})
	do(t, "the third valve", e)
	_, e = start(t, p).Run(api.Sequence{}, []api.Disorder{{Of: 2, Kind: 1}})
	wantError(t, "the third tank", e, api.ErrArg)
}

// TestArguments: R4; a run changes none of its arguments.
func TestArguments(t *testing.T) {
	q, l := flow(), []api.Disorder{{At: 1}, {At: 0, Kind: 1, Of: 1, Rate: 3}}
	q.Redlines = []api.Redline{{Ticks: 5}}
	if _, e := filled(t).Run(q, l); e != api.OK {
		t.Error(e)
	}
	again := flow()
	for i, s := range q.Steps {
		wantList(t, "orders", s.Orders, again.Steps[i].Orders)
		wantList(t, "needs", s.Needs, again.Steps[i].Needs)
	}
	wantList(t, "abort", q.Abort, again.Abort)
	wantList(t, "redlines", q.Redlines, []api.Redline{{Ticks: 5}})
	wantList(t, "disorders", l, []api.Disorder{{At: 1}, {At: 0, Kind: 1, Of: 1, Rate: 3}})
}
