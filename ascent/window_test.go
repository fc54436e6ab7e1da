package ascent_test

import (
	"math/big"
	"testing"

	"ullage/api"
	"ullage/ascent"
)

// wrongWindows are windows that are not valid: each has one fault.
func wrongWindows() []api.Window {
	return []api.Window{
		{},
		{Period: 0, Len: 0},
		{Period: -1, Len: -1},
		{Period: -1 << 63},
		{Period: api.MaxPeriod + 1},
		{Period: 1<<63 - 1},
		{Period: 10, From: api.MaxPeriod + 1},
		{Period: 10, From: -api.MaxPeriod - 1},
		{Period: 10, From: -1 << 63},
		{Period: 10, Len: -1},
		{Period: 10, Len: 11},
		{Period: 10, Len: -1 << 63},
		{Period: 10, Len: 1<<63 - 1},
	}
}

// edgeWindows are valid windows at the ends of their ranges.
func edgeWindows() []api.Window {
	const most = api.MaxPeriod
	return []api.Window{
		{Period: 1},
		{Period: 1, Len: 1, From: most},
		{Period: most, From: most, Len: most},
		{Period: most, From: -most, Len: most},
		{Period: most, From: -most},
		{Period: most, From: most, Len: 1},
		{Period: most - 1, From: -most, Len: most - 2},
		{Period: 2, From: -1, Len: 1},
	}
}

// window returns a window with a period of at most so much.
func (s *sample) window(period int) api.Window {
	w := api.Window{Period: 1 + s.below(period)}
	w.From = s.below(4*period) - 2*period
	w.Len = s.below(w.Period + 1)
	if s.below(4) == 0 {
		w.Len = min(w.Period, 1)
	}
	return w
}

// open reports whether a valid window contains a time, one after another from From on.
func open(w api.Window, t int) bool {
	for t < w.From {
		t += w.Period
	}
	return (t-w.From)%w.Period < w.Len
}

// until returns how many times below t a valid window contains; those below From are counted as negative.
func until(w api.Window, t int) int {
	periods := (t - w.From) / w.Period
	if periods*w.Period > t-w.From {
		periods--
	}
	return periods*w.Len + min(t-w.From-periods*w.Period, w.Len)
}

// slotsOf returns the set of the times from from to below to that are wanted.
func slotsOf(from, to int, wanted func(t int) bool) []api.Slot {
	var l []api.Slot
	in := false
	for t := from; t < to; t++ {
		switch {
		case wanted(t) && !in:
			l = append(l, api.Slot{From: t, To: t + 1})
		case wanted(t):
			l[len(l)-1].To++
		}
		in = wanted(t)
	}
	return l
}

// TestContains: P4.4.
func TestContains(t *testing.T) {
	s := sample{6}
	for range 300 {
		w := s.window(12)
		for n := -60; n < 60; n++ {
			if got := ascent.Contains(w, n); got != open(w, n) {
				t.Fatalf("%v contains %d: %v", w, n, got)
			}
		}
	}
	for _, w := range wrongWindows() {
		for _, n := range []int{0, 5, -1 << 63, 1<<63 - 1} {
			if ascent.Contains(w, n) {
				t.Errorf("the wrong window %v contains %d", w, n)
			}
		}
	}
}

// TestContainsFarAway: P4.4, P0.1. A time may be any integer.
func TestContainsFarAway(t *testing.T) {
	for _, w := range edgeWindows() {
		for _, n := range []int{-1 << 63, -1<<63 + 1, 1<<63 - 1, 1 << 62, -1 << 62, api.MaxInstant, w.From, w.From + w.Len, w.From - 1} {
			behind := new(big.Int).Sub(big.NewInt(int64(n)), big.NewInt(int64(w.From)))
			behind.Mod(behind, big.NewInt(int64(w.Period)))
			if got := ascent.Contains(w, n); got != (behind.Int64() < int64(w.Len)) {
				t.Errorf("%v contains %d: %v", w, n, got)
			}
		}
	}
	for _, c := range []struct {
		w    api.Window
		t    int
		want bool
	}{
		{api.Window{Period: 1 << 30, From: -1 << 30, Len: 1}, -1 << 63, true},
		{api.Window{Period: 1 << 30, From: 1 << 30, Len: 1}, -1 << 63, true},
		{api.Window{Period: 1 << 30, From: 1, Len: 1<<30 - 1}, -1 << 63, false},
		{api.Window{Period: 1 << 30, From: -1, Len: 1}, 1<<63 - 1, true},
		{api.Window{Period: 1 << 30, From: -1, Len: 1}, 1<<63 - 2, false},
		{api.Window{Period: 3, From: 1, Len: 1}, 1<<63 - 1, true}, // 2^63 is 2 modulo 3
		{api.Window{Period: 3, From: 1, Len: 1}, -1 << 63, true},
	} {
		if got := ascent.Contains(c.w, c.t); got != c.want {
			t.Errorf("%v contains %d: %v", c.w, c.t, got)
		}
	}
}

// TestSlots: P4.4.
func TestSlots(t *testing.T) {
	s := sample{7}
	for range 2000 {
		w := s.window(12)
		from := s.below(60) - 40
		to := from + s.below(60)
		l, e := ascent.Slots(w, from, to)
		wantList(t, "Slots", l, e, slotsOf(from, to, func(n int) bool { return open(w, n) }), api.OK)
	}
	three := api.Window{Period: 10, From: 3, Len: 2}
	for _, c := range []struct {
		w        api.Window
		from, to int
		wanted   []api.Slot
	}{
		{three, 0, 25, []api.Slot{{From: 3, To: 5}, {From: 13, To: 15}, {From: 23, To: 25}}},
		{three, 4, 24, []api.Slot{{From: 4, To: 5}, {From: 13, To: 15}, {From: 23, To: 24}}},
		{three, 5, 13, nil},
		{three, 3, 3, nil},
		{three, -8, -4, []api.Slot{{From: -7, To: -5}}},
		{api.Window{Period: 10, From: 3, Len: 10}, 0, 25, []api.Slot{{From: 0, To: 25}}},
		{api.Window{Period: 10, From: 3, Len: 10}, 7, 7, nil},
		{api.Window{Period: 1, Len: 1}, -api.MaxInstant, api.MaxInstant, []api.Slot{{From: -api.MaxInstant, To: api.MaxInstant}}},
		{api.Window{Period: 1}, -api.MaxInstant, api.MaxInstant, nil},
	} {
		l, e := ascent.Slots(c.w, c.from, c.to)
		wantList(t, "Slots", l, e, c.wanted, api.OK)
	}
}

// TestSlotsFarAway: P4.4, at the ends of the times.
func TestSlotsFarAway(t *testing.T) {
	for _, w := range edgeWindows() {
		for _, from := range []int{-api.MaxInstant, api.MaxInstant - 3<<30, 1 << 59} {
			to := min(from+3<<30, api.MaxInstant)
			l, e := ascent.Slots(w, from, to)
			if w == (api.Window{Period: 2, From: -1, Len: 1}) {
				wantList(t, "Slots of a short period", l, e, nil, api.ErrLong)
				continue
			}
			n, totalE := ascent.Total(l)
			if e != api.OK || len(l) > 5 {
				t.Errorf("the slots of %v from %d on are %v, error %d", w, from, l, e)
			}
			for _, x := range l {
				if !ascent.Contains(w, x.From) || !ascent.Contains(w, x.To-1) || ascent.Contains(w, x.To) && x.To < to || ascent.Contains(w, x.From-1) && x.From > from {
					t.Errorf("the slots of %v from %d on are %v", w, from, l)
				}
			}
			want(t, "Total of slots", n, totalE, until(w, to)-until(w, from), api.OK)
		}
	}
}

// TestSlotsTooMany: P4.4.
func TestSlotsTooMany(t *testing.T) {
	w := api.Window{Period: 7, From: 2, Len: 3}
	for _, c := range []struct {
		from, to, n int
		e           api.Errno
	}{
		{0, 7 * api.MaxSlots, api.MaxSlots, api.OK},
		{0, 7*api.MaxSlots + 2, api.MaxSlots, api.OK},
		{0, 7*api.MaxSlots + 3, 0, api.ErrLong},
		{2, 7*api.MaxSlots + 3, 0, api.ErrLong},
		{4, 7*api.MaxSlots + 3, 0, api.ErrLong},
		{5, 7*api.MaxSlots + 3, api.MaxSlots, api.OK},
		{-3, 7*api.MaxSlots + 2, api.MaxSlots + 1, api.ErrLong},
		{-2, 7*api.MaxSlots + 2, api.MaxSlots, api.OK},
		{-api.MaxInstant, api.MaxInstant, 0, api.ErrLong},
	} {
		l, e := ascent.Slots(w, c.from, c.to)
		if c.e != api.OK {
			c.n = 0
		}
		if len(l) != c.n || e != c.e {
			t.Errorf("from %d to %d there are %d slots, error %d; want %d, error %d", c.from, c.to, len(l), e, c.n, c.e)
		}
	}
}

// TestWrongTimes: P4.4, P4.6.
func TestWrongTimes(t *testing.T) {
	good := api.Window{Period: 10, Len: 5}
	for _, c := range [][2]int{{1, 0}, {-api.MaxInstant - 1, 0}, {0, api.MaxInstant + 1}, {api.MaxInstant + 1, api.MaxInstant + 2}, {-1 << 63, 1<<63 - 1}, {api.MaxInstant, -api.MaxInstant}} {
		l, e := ascent.Slots(good, c[0], c[1])
		wantList(t, "Slots of wrong times", l, e, nil, api.ErrArg)
		for _, w := range []api.Window{{Period: 10}, {Period: 10, Len: 10}} {
			l, e = ascent.Slots(w, c[0], c[1])
			wantList(t, "Slots of wrong times", l, e, nil, api.ErrArg)
		}
	}
	for _, n := range []int{-api.MaxInstant - 1, api.MaxInstant + 1, -1 << 63, 1<<63 - 1} {
		x, e := ascent.Next(good, good, n)
		want(t, "Next from a wrong time", x, e, 0, api.ErrArg)
		x, e = ascent.Next(good, api.Window{Period: 10}, n)
		want(t, "Next of none from a wrong time", x, e, 0, api.ErrArg)
	}
	for _, w := range wrongWindows() {
		l, e := ascent.Slots(w, 0, 25)
		wantList(t, "Slots of a wrong window", l, e, nil, api.ErrArg)
		l, e = ascent.Slots(w, 0, 0)
		wantList(t, "Slots of a wrong window, no times", l, e, nil, api.ErrArg)
		for _, pair := range [][2]api.Window{{w, good}, {good, w}, {w, w}, {w, {Period: 3}}} {
			n, e := ascent.Often(pair[0], pair[1])
			want(t, "Often of a wrong window", n, e, 0, api.ErrArg)
			n, e = ascent.Next(pair[0], pair[1], 0)
			want(t, "Next of a wrong window", n, e, 0, api.ErrArg)
		}
	}
}
