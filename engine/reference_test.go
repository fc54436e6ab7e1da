package engine_test

import (
	"slices"
	"testing"

	"ullage/api"
	"ullage/engine"
)

// book is a system that follows the chapter word by word.
type book struct {
	p                                          api.Plant
	content, gas, leaks, lost, vented, carried []int
	place                                      []int
	wanted, sticks                             []bool
}

// byBook returns a system in its first state.
func byBook(p api.Plant) *book {
	n := len(p.Tanks)
	b := &book{p: p, content: make([]int, n), gas: make([]int, n), leaks: make([]int, n), lost: make([]int, n), vented: make([]int, n), carried: make([]int, len(p.Lines))}
	for _, v := range p.Valves {
		at := 0
		if v.Open {
			at = v.Travel
		}
		b.place, b.wanted, b.sticks = append(b.place, at), append(b.wanted, v.Open), append(b.sticks, false)
	}
	return b
}

// pressure is the gas times 100, divided by the greater one of Least and Room minus content, rounded down.
func (b *book) pressure(i int) int {
	by := b.p.Tanks[i].Room - b.content[i]
	if b.p.Tanks[i].Least > by {
		by = b.p.Tanks[i].Least
	}
	return b.gas[i] * 100 / by
}

func (b *book) holds(l api.Lit) bool {
	return l.Open && b.place[l.Valve] > 0 || !l.Open && b.place[l.Valve] < b.p.Valves[l.Valve].Travel
}

func (b *book) mayHold(l api.Lit) bool { return b.holds(l) || l.Open == b.wanted[l.Valve] }

// order gives an order, and reports whether it is refused.
func (b *book) order(o api.Order) bool {
	before := b.wanted[o.Valve]
	b.wanted[o.Valve] = o.Open
	for _, set := range b.p.Never {
		may := true
		for _, l := range set {
			may = may && b.mayHold(l)
		}
		if may {
			b.wanted[o.Valve] = before
			return true
		}
	}
	return false
}

func (b *book) tick() {
	for i, v := range b.p.Valves {
		if b.sticks[i] {
			continue
		}
		if b.wanted[i] && b.place[i] < v.Travel {
			b.place[i]++
		}
		if !b.wanted[i] && b.place[i] > 0 {
			b.place[i]--
		}
	}
	for i, l := range b.p.Lines {
		shut := false
		for _, v := range l.Valves {
			shut = shut || b.place[v] != b.p.Valves[v].Travel
		}
		if !shut {
			b.carry(i, l)
		}
	}
	for i, rate := range b.leaks {
		if rate > b.content[i] {
			rate = b.content[i]
		}
		b.content[i] -= rate
		b.lost[i] += rate
	}
	for i := range b.p.Tanks {
		b.vent(i)
	}
}

func (b *book) carry(i int, l api.Line) {
	amount, what := l.Flow, b.content
	if l.Gas {
		what = b.gas
	}
	if l.From >= 0 && what[l.From] < amount {
		amount = what[l.From]
	}
	if l.To >= 0 {
		room := b.p.Tanks[l.To].Room - what[l.To]
		if l.Gas {
			room = api.MaxMass - what[l.To]
		}
		if room < amount {
			amount = room
		}
		what[l.To] += amount
	}
	if l.From >= 0 {
		what[l.From] -= amount
	}
	b.carried[i] += amount
}

// vent looks for the least amount of gas by halves: more gas has more pressure.
func (b *book) vent(i int) {
	limit := b.p.Tanks[i].Limit
	if b.pressure(i) <= limit {
		return
	}
	all := b.gas[i]
	low, high := 0, all // low is not enough, high is
	for high-low > 1 {
		half := low + (high-low)/2
		if b.gas[i] = all - half; b.pressure(i) <= limit {
			high = half
		} else {
			low = half
		}
	}
	b.gas[i] = all - high
	b.vented[i] += high
}

func (b *book) number(n api.Need) int {
	switch n.Kind {
	case 0:
		return b.content[n.Of]
	case 1:
		return b.pressure(n.Of)
	case 2:
		return b.carried[n.Of]
	}
	return b.place[n.Of]
}

func (b *book) keeps(n api.Need) bool {
	x := b.number(n)
	return n.Low <= x && x <= n.High
}

func (b *book) run(q api.Sequence, l []api.Disorder) api.Ended {
	end := b.untilEnd(q, l)
	if end.Why != 0 {
		for _, o := range q.Abort {
			if b.order(o) {
				end.Refused++
			}
		}
	}
	return end
}

func (b *book) untilEnd(q api.Sequence, l []api.Disorder) api.Ended {
	counts := map[int]int{}
	for n := 0; ; n++ {
		for _, d := range l {
			if d.At == n && d.Kind == 0 {
				b.sticks[d.Of] = true
			}
			if d.At == n && d.Kind == 1 {
				b.leaks[d.Of] = d.Rate
			}
		}
		for i, s := range q.Steps {
			for _, o := range s.Orders {
				if s.At == n && b.order(o) {
					return api.Ended{Why: 1, At: n, Index: i}
				}
			}
		}
		b.tick()
		for i, r := range q.Redlines {
			counts[i]++
			if b.keeps(r.Need) {
				counts[i] = 0
			}
			if counts[i] > r.Ticks {
				return api.Ended{Why: 3, At: n, Index: i}
			}
		}
		later := false
		for i, s := range q.Steps {
			later = later || s.At > n
			for _, x := range s.Needs {
				if s.At == n && !b.keeps(x) {
					return api.Ended{Why: 2, At: n, Index: i}
				}
			}
		}
		if !later {
			return api.Ended{At: n}
		}
	}
}

// sameState checks all that can be asked of a system.
func sameState(t *testing.T, what string, s *engine.System, b *book) {
	t.Helper()
	for kind, count := range []int{len(b.p.Tanks), len(b.p.Tanks), len(b.p.Lines), len(b.p.Valves)} {
		for of := range count {
			n := api.Need{Kind: kind, Of: of}
			if x, e := s.Number(n); x != b.number(n) || e != api.OK {
				t.Fatalf("%s: %v: %d, error %d; want %d", what, n, x, e, b.number(n))
			}
		}
	}
	for i := range b.p.Valves {
		if x, e := s.Wanted(i); x != b.wanted[i] || e != api.OK {
			t.Fatalf("%s: valve %d is wanted open: %v, error %d", what, i, x, e)
		}
		for _, l := range []api.Lit{lit(i, true), lit(i, false)} {
			if s.Holds([]api.Lit{l}) != b.holds(l) {
				t.Fatalf("%s: %v: %v", what, l, !b.holds(l))
			}
		}
	}
	if !slices.Equal(s.Carried(), b.carried) || !slices.Equal(s.Lost(), b.lost) || !slices.Equal(s.Vented(), b.vented) {
		t.Fatalf("%s: %v %v %v, want %v %v %v", what, s.Carried(), s.Lost(), s.Vented(), b.carried, b.lost, b.vented)
	}
}

// mass returns a number from 0 to most: often one of its ends.
func (s *sample) mass(most int) int {
	switch s.below(4) {
	case 0:
		return most
	case 1:
		return 0
	}
	return s.from(0, most)
}

// fill puts something into each tank of both systems.
func fill(t *testing.T, r *sample, s *engine.System, b *book) {
	t.Helper()
	for i, x := range b.p.Tanks {
		b.content[i], b.gas[i] = r.mass(x.Room), r.mass([]int{10, 1000, api.MaxMass}[r.below(3)])
		do(t, "Put", s.Put(i, b.content[i], b.gas[i]))
	}
}

// TestByBook: P7.2 to P7.4; systems on which anything is done are as the chapter says, to the last number.
func TestByBook(t *testing.T) {
	r := &sample{1}
	refused, ordered := 0, 0
	for range 1500 {
		p := r.plant(4, 5, 6)
		if !engine.CheckPlant(p) {
			t.Fatal("the plant is not valid", p)
		}
		s, b := start(t, p), byBook(p)
		fill(t, r, s, b)
		for range 40 {
			v, i := r.below(len(p.Valves)), r.below(len(p.Tanks))
			switch r.below(8) {
			case 0:
				b.sticks[v] = !b.sticks[v]
				do(t, "Stick", s.Stick(v, b.sticks[v]))
			case 1:
				b.leaks[i] = r.mass(p.Tanks[i].Room)
				do(t, "Leak", s.Leak(i, b.leaks[i]))
			case 2:
				fill(t, r, s, b)
			case 3, 4, 5:
				b.tick()
				do(t, "Tick", s.Tick())
			default:
				o, wanted := r.order(len(p.Valves)), api.OK
				if ordered++; b.order(o) {
					refused++
					wanted = api.ErrState
				}
				wantError(t, "Order", s.Order(o), wanted)
			}
			sameState(t, "a system", s, b)
		}
	}
	if refused < 1000 || refused > ordered/2 {
		t.Errorf("%d of %d orders were refused", refused, ordered)
	}
}

// need returns a need of a plant, close to what is usual.
func (s *sample) need(p api.Plant) api.Need {
	counts := []int{len(p.Tanks), len(p.Tanks), len(p.Lines), len(p.Valves)}
	kind := s.below(4)
	if counts[kind] == 0 {
		kind = place
	}
	n := api.Need{Kind: kind, Of: s.below(counts[kind]), Low: s.below(3), High: s.mass(api.MaxMass)}
	if s.yes(3) {
		n.Low, n.High = 0, api.MaxMass*100
	}
	if kind == place && s.yes(2) {
		n.Low, n.High = s.below(2), s.from(1, 4)
	}
	return n
}

// sequence returns a valid sequence for a plant.
func (s *sample) sequence(p api.Plant) api.Sequence {
	var q api.Sequence
	at := 0
	for range s.below(6) {
		at += s.below(4)
		x := api.Step{At: at}
		for range s.below(3) {
			x.Orders = append(x.Orders, s.order(len(p.Valves)))
		}
		for range s.below(2) {
			x.Needs = append(x.Needs, s.need(p))
		}
		q.Steps = append(q.Steps, x)
	}
	for range s.below(3) {
		q.Redlines = append(q.Redlines, api.Redline{Need: s.need(p), Ticks: s.below(6)})
	}
	for range s.below(4) {
		q.Abort = append(q.Abort, s.order(len(p.Valves)))
	}
	return q
}

// disorders returns what goes wrong.
func (s *sample) disorders(p api.Plant) []api.Disorder {
	var l []api.Disorder
	for range s.below(4) {
		d := api.Disorder{At: s.below(12), Kind: s.below(2), Of: s.below(len(p.Valves)), Rate: s.mass(100)}
		if d.Kind == 1 {
			d.Of = s.below(len(p.Tanks))
		}
		l = append(l, d)
	}
	return l
}

// TestRunsByBook: P7.5; runs end as the chapter says, and leave what it says.
func TestRunsByBook(t *testing.T) {
	r := &sample{2}
	var ends [4]int
	aborts := 0
	for range 4000 {
		p := r.plant(4, 5, 6)
		s, b := start(t, p), byBook(p)
		fill(t, r, s, b)
		for range 3 {
			q, l := r.sequence(p), r.disorders(p)
			if !engine.CheckSequence(p, q) {
				t.Fatal("the sequence is not valid", q)
			}
			wanted := b.run(q, l)
			wantEnd(t, "a run", s, q, l, wanted)
			sameState(t, "behind a run", s, b)
			ends[wanted.Why]++
			if wanted.Refused > 0 {
				aborts++
			}
		}
	}
	if slices.Min(ends[:]) < 400 || aborts < 200 {
		t.Errorf("ends %v, %d aborts with refused orders", ends, aborts)
	}
}
