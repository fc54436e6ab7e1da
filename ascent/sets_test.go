package ascent_test

import (
	"slices"
	"testing"

	"ullage/api"
	"ullage/ascent"
)

// operation is one of two sets, and what it is of two times.
type operation struct {
	name string
	of   func(a, b []api.Slot) ([]api.Slot, api.Errno)
	keep func(inA, inB bool) bool
}

// operations are all of them.
func operations() []operation {
	return []operation{
		{"Both", ascent.Both, func(inA, inB bool) bool { return inA && inB }},
		{"Either", ascent.Either, func(inA, inB bool) bool { return inA || inB }},
		{"Without", ascent.Without, func(inA, inB bool) bool { return inA && !inB }},
	}
}

// set returns a set of times from 0 to below 64, and these times.
func (s *sample) set() ([]api.Slot, uint64) {
	bits := s.next()
	for range s.below(4) {
		bits &= s.next() | s.next()<<1
	}
	switch s.below(8) {
	case 0:
		bits = 0
	case 1:
		bits = 1<<64 - 1
	}
	return slotsOf(0, 64, func(t int) bool { return bits>>t&1 == 1 }), bits
}

// TestSets: P4.5, against all times one by one.
func TestSets(t *testing.T) {
	s := sample{12}
	for range 3000 {
		a, bitsA := s.set()
		b, bitsB := s.set()
		beforeA, beforeB := slices.Clone(a), slices.Clone(b)
		for _, o := range operations() {
			wanted := slotsOf(0, 64, func(t int) bool { return o.keep(bitsA>>t&1 == 1, bitsB>>t&1 == 1) })
			got, e := o.of(a, b)
			wantList(t, o.name, got, e, wanted, api.OK)
			n, e := ascent.Total(got)
			times := 0
			for _, x := range wanted {
				times += x.To - x.From
			}
			want(t, "Total of "+o.name, n, e, times, api.OK)
			clear(got) // P4.7: it is new
		}
		if !slices.Equal(a, beforeA) || !slices.Equal(b, beforeB) {
			t.Fatalf("%v and %v are changed", a, b)
		}
	}
}

// TestSetsByNumbers: P4.5, the examples, and sets that are far away.
func TestSetsByNumbers(t *testing.T) {
	const most = api.MaxInstant
	always := []api.Slot{{From: -most, To: most}}
	for _, c := range []struct {
		a, b, both, either, without []api.Slot
	}{
		{[]api.Slot{{From: 0, To: 5}}, []api.Slot{{From: 5, To: 7}}, nil, []api.Slot{{From: 0, To: 7}}, []api.Slot{{From: 0, To: 5}}},
		{[]api.Slot{{From: 0, To: 10}}, []api.Slot{{From: 3, To: 5}}, []api.Slot{{From: 3, To: 5}}, []api.Slot{{From: 0, To: 10}}, []api.Slot{{From: 0, To: 3}, {From: 5, To: 10}}},
		{nil, nil, nil, nil, nil},
		{nil, []api.Slot{}, nil, nil, nil},
		{always, nil, nil, always, always},
		{nil, always, nil, always, nil},
		{always, always, always, always, nil},
		{always, []api.Slot{{From: -most, To: 0}, {From: 1, To: most}}, []api.Slot{{From: -most, To: 0}, {From: 1, To: most}}, always, []api.Slot{{From: 0, To: 1}}},
		{[]api.Slot{{From: -most, To: 1 - most}}, []api.Slot{{From: most - 1, To: most}}, nil, []api.Slot{{From: -most, To: 1 - most}, {From: most - 1, To: most}}, []api.Slot{{From: -most, To: 1 - most}}},
	} {
		for i, o := range operations() {
			got, e := o.of(c.a, c.b)
			wantList(t, o.name, got, e, [][]api.Slot{c.both, c.either, c.without}[i], api.OK)
		}
	}
	n, e := ascent.Total(always)
	want(t, "Total of all times", n, e, 2*most, api.OK)
	n, e = ascent.Total(nil)
	want(t, "Total of no times", n, e, 0, api.OK)
	n, e = ascent.Total([]api.Slot{{From: -5, To: -3}, {From: -2, To: 4}})
	want(t, "Total of two slots", n, e, 8, api.OK)
}

// steps returns n slots of one time, in each second time from from on.
func steps(from, n int) []api.Slot {
	var l []api.Slot
	for i := range n {
		l = append(l, api.Slot{From: from + 2*i, To: from + 2*i + 1})
	}
	return l
}

// TestWrongSets: P4.5.
func TestWrongSets(t *testing.T) {
	good := []api.Slot{{From: 0, To: 10}}
	for _, w := range [][]api.Slot{
		{{From: 1, To: 1}},
		{{From: 2, To: 1}},
		{{From: -api.MaxInstant - 1, To: 0}},
		{{From: 0, To: api.MaxInstant + 1}},
		{{From: -1 << 63, To: 1<<63 - 1}},
		{{From: 1<<63 - 1, To: -1 << 63}},
		{{From: 0, To: 1}, {From: 1, To: 2}},
		{{From: 0, To: 2}, {From: 1, To: 3}},
		{{From: 5, To: 6}, {From: 0, To: 1}},
		{{From: 0, To: 1}, {From: 2, To: 2}},
		{{From: 0, To: 1}, {From: 2, To: api.MaxInstant + 1}},
		steps(0, api.MaxSlots+1),
	} {
		for _, o := range operations() {
			for _, pair := range [][2][]api.Slot{{w, good}, {good, w}, {w, w}, {w, nil}, {nil, w}} {
				got, e := o.of(pair[0], pair[1])
				wantList(t, o.name+" of a wrong set", got, e, nil, api.ErrArg)
			}
		}
		n, e := ascent.Total(w)
		want(t, "Total of a wrong set", n, e, 0, api.ErrArg)
	}
}

// TestManySlots: P4.5. A result may have no more slots than a set.
func TestManySlots(t *testing.T) {
	const most = api.MaxSlots
	all := []api.Slot{{From: -10, To: 10 * most}}
	wide := steps(0, most)
	wide[most-1].To += 5
	for _, c := range []struct {
		what string
		of   func(a, b []api.Slot) ([]api.Slot, api.Errno)
		a, b []api.Slot
		n    int
		e    api.Errno
	}{
		{"Both of all", ascent.Both, steps(0, most), all, most, api.OK},
		{"Both, one more", ascent.Both, wide, []api.Slot{{From: 0, To: 2 * most}, {From: 2*most + 1, To: 2*most + 2}}, 0, api.ErrLong},
		{"Either of one more", ascent.Either, steps(0, most), steps(-2, 1), 0, api.ErrLong},
		{"Either of the same", ascent.Either, steps(0, most), steps(0, most), most, api.OK},
		{"Either that touch", ascent.Either, steps(0, most), steps(1, most), 1, api.OK},
		{"Either of twice as many", ascent.Either, steps(0, most), steps(2*most, most), 0, api.ErrLong},
		{"Either of two halves", ascent.Either, steps(0, most/2), steps(most, most/2), most, api.OK},
		{"Without, one more", ascent.Without, all, steps(0, most), 0, api.ErrLong},
		{"Without", ascent.Without, all, steps(0, most-1), most, api.OK},
		{"Without all", ascent.Without, steps(0, most), all, 0, api.OK},
		{"Without none", ascent.Without, steps(0, most), nil, most, api.OK},
	} {
		got, e := c.of(c.a, c.b)
		if len(got) != c.n || e != c.e {
			t.Errorf("%s: %d slots, error %d; want %d, error %d", c.what, len(got), e, c.n, c.e)
		}
	}
	n, e := ascent.Total(steps(0, most))
	want(t, "Total of many slots", n, e, most, api.OK)
}

// TestLaws: P4.8, of sets and of windows.
func TestLaws(t *testing.T) {
	s := sample{13}
	ok := func(l []api.Slot, e api.Errno) []api.Slot {
		t.Helper()
		if e != api.OK {
			t.Fatalf("error %d", e)
		}
		return l
	}
	slots := func(w api.Window) []api.Slot { return ok(ascent.Slots(w, -500, 500)) }
	for range 500 {
		a, b, c := slots(s.window(40)), slots(s.window(90)), slots(s.window(300))
		both, either, without := ascent.Both, ascent.Either, ascent.Without
		for i, pair := range [][2][]api.Slot{
			{ok(both(a, b)), ok(both(b, a))},
			{ok(either(a, b)), ok(either(b, a))},
			{ok(both(a, ok(both(b, c)))), ok(both(ok(both(a, b)), c))},
			{ok(either(a, ok(either(b, c)))), ok(either(ok(either(a, b)), c))},
			{ok(both(a, ok(either(b, c)))), ok(either(ok(both(a, b)), ok(both(a, c))))},
			{ok(either(a, ok(both(b, c)))), ok(both(ok(either(a, b)), ok(either(a, c))))},
			{ok(without(a, ok(either(b, c)))), ok(both(ok(without(a, b)), ok(without(a, c))))},
			{ok(without(a, ok(without(a, b)))), ok(both(a, b))},
			{ok(either(ok(without(a, b)), ok(both(a, b)))), a},
			{ok(either(a, a)), a},
			{ok(both(a, ok(either(a, b)))), a},
			{ok(without(a, a)), nil},
		} {
			if !slices.Equal(pair[0], pair[1]) {
				t.Fatalf("law %d: %v is not %v", i, pair[0], pair[1])
			}
		}
		m, _ := ascent.Total(ok(both(a, b)))
		n, _ := ascent.Total(ok(either(a, b)))
		x, _ := ascent.Total(a)
		y, _ := ascent.Total(b)
		if m+n != x+y {
			t.Fatalf("%d and %d times are not %d and %d", m, n, x, y)
		}
	}
}

// TestMeetingsAreSets: P4.6, P4.8. What is in both of two windows comes from Often and Next as it does from their sets.
func TestMeetingsAreSets(t *testing.T) {
	s := sample{14}
	for range 300 {
		a, b := s.window(50), s.window(50)
		round := multiple(a.Period, b.Period)
		from := s.below(5000) - 2500
		slotsA, _ := ascent.Slots(a, from, from+round)
		slotsB, _ := ascent.Slots(b, from, from+round)
		both, e := ascent.Both(slotsA, slotsB)
		if e != api.OK {
			t.Fatalf("error %d", e)
		}
		total, _ := ascent.Total(both)
		often, e := ascent.Often(a, b)
		want(t, "Often", often, e, total, api.OK)
		next, e := ascent.Next(a, b, from)
		if len(both) == 0 {
			want(t, "Next of none", next, e, 0, api.ErrNone)
		} else {
			want(t, "Next", next, e, both[0].From, api.OK)
		}
	}
}
