package ascent_test

import (
	"math/big"
	"testing"

	"ullage/api"
	"ullage/ascent"
)

// multiple returns the least common multiple of two numbers.
func multiple(a, b int) int {
	g := new(big.Int).GCD(nil, nil, big.NewInt(int64(a)), big.NewInt(int64(b)))
	return a / int(g.Int64()) * b
}

// TestMeetings: P4.6, P4.8, against all times one by one.
func TestMeetings(t *testing.T) {
	s := sample{8}
	never := 0
	for range 3000 {
		a, b := s.window(24), s.window(24)
		round := multiple(a.Period, b.Period)
		both := func(n int) bool { return open(a, n) && open(b, n) }
		from := s.below(2000) - 1000
		often, next := 0, 0
		for n := from + round - 1; n >= from; n-- {
			if both(n) {
				often++
				next = n
			}
		}
		got, e := ascent.Often(a, b)
		want(t, "Often", got, e, often, api.OK)
		got, e = ascent.Often(b, a)
		want(t, "Often, the other way round", got, e, often, api.OK)
		wantedE := api.OK
		if often == 0 {
			never++
			wantedE = api.ErrNone
		}
		got, e = ascent.Next(a, b, from)
		want(t, "Next", got, e, next, wantedE)
		got, e = ascent.Next(b, a, from)
		want(t, "Next, the other way round", got, e, next, wantedE)
		if t.Failed() {
			t.Fatalf("%v and %v, from %d", a, b, from)
		}
	}
	if never < 100 || never > 2000 {
		t.Errorf("%d pairs of windows never meet", never)
	}
}

// TestMeetingsByNumbers: P4.6, the examples, and long periods.
func TestMeetingsByNumbers(t *testing.T) {
	const most = api.MaxPeriod
	for _, c := range []struct {
		a, b           api.Window
		t, often, next int
		e              api.Errno
	}{
		{api.Window{Period: 4, Len: 1}, api.Window{Period: 6, From: 2, Len: 1}, 0, 1, 8, api.OK},
		{api.Window{Period: 4, Len: 1}, api.Window{Period: 6, From: 2, Len: 1}, 9, 1, 20, api.OK},
		{api.Window{Period: 4, Len: 1}, api.Window{Period: 6, From: 2, Len: 1}, 8, 1, 8, api.OK},
		{api.Window{Period: 4, Len: 1}, api.Window{Period: 6, From: 1, Len: 1}, 0, 0, 0, api.ErrNone},
		{api.Window{Period: 4}, api.Window{Period: 6, Len: 6}, 0, 0, 0, api.ErrNone},
		{api.Window{Period: 4, Len: 4}, api.Window{Period: 6}, 0, 0, 0, api.ErrNone},
		{api.Window{Period: 4, Len: 4}, api.Window{Period: 6, Len: 6}, -7, 12, -7, api.OK},
		{api.Window{Period: 4, Len: 4}, api.Window{Period: 6, From: 3, Len: 2}, 0, 4, 3, api.OK},
		{api.Window{Period: 1, Len: 1}, api.Window{Period: 1, Len: 1}, api.MaxInstant, 1, api.MaxInstant, api.OK},
		{api.Window{Period: most, Len: 1}, api.Window{Period: most - 1, From: 5, Len: 1}, 1, 1, 5 << 30, api.OK},
		{api.Window{Period: most, Len: most}, api.Window{Period: most - 1, Len: most - 1}, 9, most * (most - 1), 9, api.OK},
		{api.Window{Period: most, Len: most}, api.Window{Period: most, From: -most, Len: most}, 9, most, 9, api.OK},
		{api.Window{Period: most, From: 3, Len: 2}, api.Window{Period: most, From: -most + 4, Len: 2}, 6, 1, most + 4, api.OK},
		{api.Window{Period: most, From: 1, Len: most - 1}, api.Window{Period: most - 1, From: 1, Len: most - 2}, 0, (most - 1) * (most - 2), 1, api.OK},
		{api.Window{Period: most, Len: most / 2}, api.Window{Period: most / 2, From: -1, Len: 1}, 0, 1, most/2 - 1, api.OK},
		{api.Window{Period: most, Len: 1}, api.Window{Period: most - 1, Len: 1}, 1, 1, most * (most - 1), api.OK},
		{api.Window{Period: most, Len: 1}, api.Window{Period: most - 1, Len: 1}, api.MaxInstant, 1, 2 * most * (most - 1), api.OK},
		{api.Window{Period: most, Len: 1}, api.Window{Period: most - 1, Len: 1}, -api.MaxInstant, 1, -most * (most - 1), api.OK},
	} {
		n, e := ascent.Often(c.a, c.b)
		want(t, "Often", n, e, c.often, api.OK)
		n, e = ascent.Next(c.a, c.b, c.t)
		want(t, "Next", n, e, c.next, c.e)
		n, e = ascent.Next(c.b, c.a, c.t)
		want(t, "Next, the other way round", n, e, c.next, c.e)
	}
}

// meeting returns the first time from t on that is at the beginning of both windows, by big numbers.
func meeting(a, b api.Window, t int) (int, bool) {
	pa, pb := big.NewInt(int64(a.Period)), big.NewInt(int64(b.Period))
	var x big.Int
	g := new(big.Int).GCD(&x, nil, pa, pb)
	way, left := new(big.Int).DivMod(big.NewInt(int64(b.From-a.From)), g, new(big.Int))
	if left.Sign() != 0 {
		return 0, false
	}
	round := new(big.Int).Div(new(big.Int).Mul(pa, pb), g)
	way.Mul(way.Mul(way, &x), pa)
	way.Add(way, big.NewInt(int64(a.From-t)))
	return t + int(way.Mod(way, round).Int64()), true
}

// long returns a window with a long period, which has a divisor, and which is open for a time.
func (s *sample) long(divisor int) api.Window {
	w := api.Window{Period: divisor * (1 + s.below(api.MaxPeriod/divisor)), Len: 1}
	w.From = s.below(2*api.MaxPeriod) - api.MaxPeriod
	return w
}

// TestLongPeriods: P4.6, of windows that are open for one time of a long period.
func TestLongPeriods(t *testing.T) {
	s := sample{9}
	met := 0
	for range 20000 {
		divisor := []int{1, 2, 3, 8, 30, 1 << 12, 999_983}[s.below(7)]
		a, b := s.long(divisor), s.long(divisor)
		from := s.below(2*api.MaxInstant) - api.MaxInstant
		if s.below(2) == 0 {
			b.From = a.From + s.below(7)*divisor
			b.From = min(b.From, api.MaxPeriod)
		}
		wanted, ok := meeting(a, b, from)
		often, wantedE := 1, api.OK
		if ok {
			met++
		} else {
			often, wanted, wantedE = 0, 0, api.ErrNone
		}
		n, e := ascent.Often(a, b)
		want(t, "Often", n, e, often, api.OK)
		n, e = ascent.Next(a, b, from)
		want(t, "Next", n, e, wanted, wantedE)
		if t.Failed() {
			t.Fatalf("%v and %v, from %d", a, b, from)
		}
	}
	if met < 1000 || met > 19000 {
		t.Errorf("%d pairs meet", met)
	}
}

// TestLongWindows: P4.6, P4.8, of long periods in which windows are open for a while: each pair of places in the two is a pair of windows that are open for one time.
func TestLongWindows(t *testing.T) {
	s := sample{10}
	met := 0
	for range 2000 {
		divisor := []int{1, 5, 60, 1 << 12}[s.below(4)]
		a, b := s.long(divisor), s.long(divisor)
		a.Len, b.Len = min(a.Period, 1+s.below(9)), min(b.Period, 1+s.below(9))
		from := s.below(2*api.MaxInstant) - api.MaxInstant
		often, next, wantedE := 0, 0, api.ErrNone
		for i := range a.Len {
			for j := range b.Len {
				x, ok := meeting(api.Window{Period: a.Period, From: a.From + i}, api.Window{Period: b.Period, From: b.From + j}, from)
				if ok && (often == 0 || x < next) {
					next, wantedE = x, api.OK
				}
				if ok {
					often++
				}
			}
		}
		n, e := ascent.Often(a, b)
		want(t, "Often", n, e, often, api.OK)
		n, e = ascent.Next(a, b, from)
		want(t, "Next", n, e, next, wantedE)
		if often > 0 {
			met++
			round := multiple(a.Period, b.Period)
			again, e := ascent.Next(a, b, n+1)
			if e != api.OK && n < api.MaxInstant || again > n+round || n >= from+round {
				t.Errorf("from %d on they meet at %d, and at %d, error %d", from, n, again, e)
			}
			if n+round <= api.MaxInstant {
				after, e := ascent.Next(a, b, from+round)
				want(t, "Next, a common period later", after, e, n+round, api.OK)
			}
		}
		if t.Failed() {
			t.Fatalf("%v and %v, from %d", a, b, from)
		}
	}
	if met < 500 {
		t.Errorf("%d pairs meet", met)
	}
}

// TestOftenOfMany: P4.6. What is in both windows, and what is in a and outside of b, is all that is in a.
func TestOftenOfMany(t *testing.T) {
	s := sample{11}
	for range 20000 {
		divisor := 1 + s.below(1<<20)
		a, b := s.long(divisor), s.long(divisor)
		a.Len, b.Len = s.below(a.Period+1), s.below(b.Period+1)
		outside := api.Window{Period: b.Period, From: (b.From + b.Len) % b.Period, Len: b.Period - b.Len}
		m, e := ascent.Often(a, b)
		n, otherE := ascent.Often(a, outside)
		round := multiple(a.Period, b.Period)
		if e != api.OK || otherE != api.OK || m < 0 || n < 0 || m+n != round/a.Period*a.Len {
			t.Fatalf("%v is in %v %d times, and outside %d times, errors %d, %d", a, b, m, n, e, otherE)
		}
	}
}
