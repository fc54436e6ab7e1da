package nav_test

import (
	"slices"
	"testing"

	"ullage/api"
	"ullage/nav"
)

// plane is a state somewhere in a square.
func plane() api.State { return at(api.Box{ints(0, 8), ints(0, 8), whole(0)}) }

// onX and onY are measurements of one coordinate.
func onX(value api.Span) api.Radio { return along(box(1, 0, 0), value) }
func onY(value api.Span) api.Radio { return along(box(0, 1, 0), value) }

// crossing are two measurements that meet in (4, 0).
func crossing() []api.Radio {
	return []api.Radio{along(box(1, 1, 0), whole(4)), along(box(1, -1, 0), whole(4))}
}

// nearing are two measurements that meet in (4, 2), to which each round comes nearer.
func nearing() []api.Radio {
	return []api.Radio{along(box(1, -2, 0), whole(0)), along(box(1, -4, 0), whole(-4))}
}

// broken is a measurement that has an error other than ErrNone: the square of its value is too great.
func broken() api.Radio { return far(ints(0, 1<<20)) }

// TestFuse: P6.3.
func TestFuse(t *testing.T) {
	s := plane()
	x := func(low, high int) api.State { return at(api.Box{ints(low, high), ints(0, 8), whole(0)}) }
	for _, c := range []struct {
		what   string
		l      []api.Radio
		rounds int
		wanted fused
		e      api.Errno
	}{
		{"no rounds", crossing(), 0, fused{s, 0}, api.OK},
		{"no rounds, of what cannot be", []api.Radio{onX(ints(9, 10))}, 0, fused{s, 0}, api.OK},
		{"nothing", nil, 7, fused{s, 1}, api.OK},
		{"an empty list", []api.Radio{}, 1, fused{s, 1}, api.OK},
		{"nothing, no rounds", nil, 0, fused{s, 0}, api.OK},
		{"nothing that changes something", []api.Radio{onX(ints(-1, 9)), onY(ints(0, 8))}, 16, fused{s, 1}, api.OK},
		{"one that changes something", []api.Radio{onX(ints(2, 3))}, 16, fused{x(2, 3), 2}, api.OK},
		{"one that changes something, in one round", []api.Radio{onX(ints(2, 3))}, 1, fused{x(2, 3), 1}, api.OK},
		{"two that meet", crossing(), 9, fused{at(box(4, 0, 0)), 2}, api.OK},
		{"two that meet, in one round", crossing(), 1, fused{at(box(4, 0, 0)), 1}, api.OK},
		{"what cannot be", []api.Radio{onX(ints(9, 10))}, 1, fused{}, api.ErrNone},
		{"what cannot be behind others", append(crossing(), onX(ints(6, 7))), 16, fused{}, api.ErrNone},
		{"what cannot be before others", append([]api.Radio{onX(ints(9, 10))}, crossing()...), 16, fused{}, api.ErrNone},
		{"one that has an error alone", []api.Radio{broken()}, 16, fused{s, 1}, api.OK},
		{"one that has an error, and others", []api.Radio{onX(ints(2, 9)), broken(), onX(ints(0, 3))}, 1, fused{x(2, 3), 1}, api.OK},
		{"one that has an error, before one that cannot be", []api.Radio{broken(), onX(ints(9, 10))}, 1, fused{}, api.ErrNone},
		{"as many measurements as may be", slices.Repeat([]api.Radio{onX(ints(2, 3))}, api.MaxRadios), api.MaxFuse, fused{x(2, 3), 2}, api.OK},
		{"one more", slices.Repeat([]api.Radio{onX(ints(2, 3))}, api.MaxRadios+1), 1, fused{}, api.ErrLong},
		{"one more, and no rounds", slices.Repeat([]api.Radio{onX(ints(2, 3))}, api.MaxRadios+1), 0, fused{}, api.ErrLong},
		{"too few rounds", crossing(), -1, fused{}, api.ErrArg},
		{"too many rounds", crossing(), api.MaxFuse + 1, fused{}, api.ErrArg},
		{"too many rounds of nothing", nil, 1<<63 - 1, fused{}, api.ErrArg},
	} {
		got, n, e := nav.Fuse(s, c.l, c.rounds)
		wantFused(t, c.what, got, n, e, c.wanted, c.e)
	}
}

// TestFuseInRounds: P6.3. Each round goes on from the one before it, as often as was asked for.
func TestFuseInRounds(t *testing.T) {
	// These meet in one point only, but no round finds more than the first one.
	wide := at(api.Box{ints(-64, 64), ints(-64, 64), whole(0)})
	both := []api.Radio{along(box(1, -2, 0), whole(0)), along(box(1, 2, 0), whole(0))}
	for rounds := 1; rounds <= 4; rounds++ {
		got, n, e := nav.Fuse(wide, both, rounds)
		wantFused(t, "nothing more", got, n, e, fused{at(api.Box{ints(-64, 64), ints(-32, 32), whole(0)}), min(rounds, 2)}, api.OK)
	}
	l, now := nearing(), plane()
	for rounds := 1; rounds <= api.MaxFuse; rounds++ {
		next, n, e := nav.Fuse(now, l, 1)
		want(t, "one round", n, e, 1, api.OK)
		got, n, e := nav.Fuse(plane(), l, rounds)
		wantFused(t, "some rounds", got, n, e, fused{next, rounds}, api.OK)
		if next == now {
			t.Errorf("round %d changes nothing", rounds)
		}
		now = next
	}
}

// TestErrorsCutNothing: P6.3. A cut that ends with an error other than ErrNone leaves what it has cut before that.
func TestErrorsCutNothing(t *testing.T) {
	// At x this cuts off what is above 39000; at y the sum of the squares of x and z is too great.
	s := at(api.Box{ints(0, 40000), whole(0), ints(0, 40000)})
	m := far(whole(39000))
	got, e := nav.Cut(s, m)
	want(t, "the cut", got, e, api.State{}, api.ErrRange)
	got, n, e := nav.Fuse(s, []api.Radio{m}, 3)
	wantFused(t, "Fuse", got, n, e, fused{s, 1}, api.OK)
	near := onX(ints(0, 20000))
	after, e := nav.Cut(at(api.Box{ints(0, 20000), whole(0), ints(0, 40000)}), m)
	want(t, "a cut of what is nearer", after.T, e, s.T, api.OK)
	got, n, e = nav.Fuse(s, []api.Radio{m, near}, 2)
	wantFused(t, "Fuse, with another one that helps in the second round", got, n, e, fused{after, 2}, api.OK)
}

// TestTrust: P6.4.
func TestTrust(t *testing.T) {
	s := plane()
	s.V = box(1, 2, 3)
	in := func(x, y api.Span) api.State {
		s := s
		s.P = api.Box{x, y, whole(0)}
		return s
	}
	free := ints(0, 8)
	three := []api.Radio{onX(ints(1, 2)), onX(ints(2, 4)), onX(ints(6, 7))}
	never := onX(ints(9, 10))
	for _, c := range []struct {
		what          string
		l             []api.Radio
		wrong, rounds int
		wanted        api.State
		e             api.Errno
	}{
		{"none is wrong", three[:2], 0, 4, in(whole(2), free), api.OK},
		{"none is wrong, but one is", three, 0, 4, api.State{}, api.ErrNone},
		{"one is wrong", three, 1, 4, in(whole(2), free), api.OK},
		{"two are wrong", three, 2, 4, in(ints(1, 7), free), api.OK},
		{"the first or the last one", []api.Radio{onX(ints(1, 3)), onX(ints(2, 5)), onX(ints(4, 6))}, 1, 4, in(ints(2, 5), free), api.OK},
		{"both coordinates", []api.Radio{onX(ints(1, 1)), onX(ints(2, 2)), onY(ints(3, 3))}, 1, 4, in(ints(1, 2), whole(3)), api.OK},
		{"two cannot be, but one may be wrong", []api.Radio{never, never, onX(ints(1, 2))}, 1, 4, api.State{}, api.ErrNone},
		{"two cannot be", []api.Radio{never, onX(ints(1, 2)), never}, 2, 4, in(ints(1, 2), free), api.OK},
		{"three cannot be", []api.Radio{never, never, never}, 2, 4, api.State{}, api.ErrNone},
		{"no rounds", []api.Radio{never, never, never}, 2, 0, s, api.OK},
		{"nothing", nil, 0, 4, s, api.OK},
		{"all are wrong", []api.Radio{never}, 1, 4, s, api.OK},
		{"both are wrong", []api.Radio{never, never}, 2, 4, s, api.OK},
		{"one that has an error", []api.Radio{broken(), onX(ints(1, 2)), onX(ints(1, 2))}, 1, 4, in(ints(1, 2), free), api.OK},
		{"in rounds", append(crossing(), crossing()...), 1, 16, in(whole(4), whole(0)), api.OK},
		{"more wrong ones than there are", nil, 1, 4, api.State{}, api.ErrArg},
		{"two wrong ones of one", three[:1], 2, 4, api.State{}, api.ErrArg},
		{"too many wrong ones", three, 3, 4, api.State{}, api.ErrArg},
		{"less than no wrong ones", three, -1, 4, api.State{}, api.ErrArg},
		{"too few rounds", three, 1, -1, api.State{}, api.ErrArg},
		{"too many rounds", three, 1, api.MaxFuse + 1, api.State{}, api.ErrArg},
		{"as many measurements as may be", slices.Repeat(three[:1], api.MaxRadios), 2, api.MaxFuse, in(ints(1, 2), free), api.OK},
		{"one more, and all else is wrong, too", slices.Repeat([]api.Radio{{Kind: 9}}, api.MaxRadios+1), 3, -1, api.State{}, api.ErrLong},
	} {
		got, e := nav.Trust(s, c.l, c.wrong, c.rounds)
		want(t, c.what, got, e, c.wanted, c.e)
	}
	v := going(api.Box{ints(0, 8), ints(0, 8), whole(0)})
	got, e := nav.Trust(v, []api.Radio{{Kind: alongVelocity, Dir: box(1, 0, 0), Value: whole(3)}, {Kind: alongVelocity, Dir: box(1, 0, 0), Value: whole(5)}}, 1, 1)
	want(t, "velocities", got, e, going(api.Box{ints(3, 5), ints(0, 8), whole(0)}), api.OK)
}

// TestSuspects: P6.5.
func TestSuspects(t *testing.T) {
	never, low, high := onX(ints(9, 10)), onX(ints(1, 2)), onX(ints(6, 7))
	for _, c := range []struct {
		what   string
		l      []api.Radio
		rounds int
		wanted []int
		e      api.Errno
	}{
		{"nothing", nil, 4, nil, api.OK},
		{"all is well", crossing(), 4, nil, api.OK},
		{"one cannot be", []api.Radio{low, never, low}, 4, []int{1}, api.OK},
		{"the first or the last one", append(crossing(), high), 4, []int{0, 2}, api.OK},
		{"the last one cannot be", append(crossing(), never), 4, []int{2}, api.OK},
		{"the only one cannot be", []api.Radio{never}, 4, []int{0}, api.OK},
		{"one of two", []api.Radio{low, high}, 4, []int{0, 1}, api.OK},
		{"one of two, among others", []api.Radio{onY(ints(1, 2)), low, broken(), high, onY(ints(2, 3))}, 4, []int{1, 3}, api.OK},
		{"one of three, and of the others two agree", []api.Radio{low, high, low}, 4, []int{1}, api.OK},
		{"two cannot be", []api.Radio{never, low, never}, 4, nil, api.OK},
		{"no rounds", []api.Radio{never}, 0, nil, api.OK},
		{"an error is no conflict", []api.Radio{broken(), broken()}, 4, nil, api.OK},
		{"too few rounds", []api.Radio{never}, -1, nil, api.ErrArg},
		{"too many rounds", []api.Radio{never}, api.MaxFuse + 1, nil, api.ErrArg},
		{"as many measurements as may be", append(slices.Repeat([]api.Radio{low}, api.MaxRadios-1), high), api.MaxFuse, []int{15}, api.OK},
		{"one more", slices.Repeat([]api.Radio{low}, api.MaxRadios+1), 4, nil, api.ErrLong},
	} {
		got, e := nav.Suspects(plane(), c.l, c.rounds)
		wantList(t, c.what, got, e, c.wanted, c.e)
	}
}

// TestWrongFusions: P6.3 to P6.5, ErrArg of all that is not valid, and ErrLong before that.
func TestWrongFusions(t *testing.T) {
	check := func(what string, s api.State, l []api.Radio, wanted api.Errno) {
		t.Helper()
		for _, rounds := range []int{0, 1, 99} {
			got, n, e := nav.Fuse(s, l, rounds)
			wantFused(t, "Fuse, "+what, got, n, e, fused{}, wanted)
			for _, wrong := range []int{0, 1, 99} {
				got, e = nav.Trust(s, l, wrong, rounds)
				want(t, "Trust, "+what, got, e, api.State{}, wanted)
			}
			who, e := nav.Suspects(s, l, rounds)
			wantList(t, "Suspects, "+what, who, e, nil, wanted)
		}
	}
	good := fullRadio(distance)
	never := far(ints(-2, -1))
	for _, m := range wrongRadios() {
		check("a wrong measurement", fullState(), []api.Radio{m}, api.ErrArg)
		check("a wrong measurement at the end", fullState(), []api.Radio{good, never, m}, api.ErrArg)
		check("too many wrong measurements", fullState(), slices.Repeat([]api.Radio{m}, api.MaxRadios+1), api.ErrLong)
	}
	for _, s := range wrongStates() {
		check("a wrong state", s, []api.Radio{good, good}, api.ErrArg)
		check("a wrong state, nothing heard", s, nil, api.ErrArg)
		check("a wrong state, too many measurements", s, slices.Repeat([]api.Radio{good}, api.MaxRadios+1), api.ErrLong)
	}
}

// TestArgumentsStay: P6.7.
func TestArgumentsStay(t *testing.T) {
	room := append(crossing(), onX(ints(6, 7)), onY(ints(0, 1)), far(ints(1, 2)))
	l, before := room[:4], slices.Clone(room)
	for range 2 { // once more: nothing is kept, either
		nav.Fuse(plane(), l, 4)
		nav.Trust(plane(), l, 2, 4)
		first, _ := nav.Suspects(plane(), l, 4)
		second, _ := nav.Suspects(plane(), l, 4)
		if len(first) != 1 || &first[0] == &second[0] {
			t.Errorf("%v and %v share memory", first, second)
		}
		first[0] = 99
		wantList(t, "Suspects", second, api.OK, []int{2}, api.OK)
	}
	wantList(t, "the measurements", room, api.OK, before, api.OK)
}
