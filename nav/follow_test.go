package nav_test

import (
	"math/big"
	"slices"
	"testing"

	"ullage/api"
	"ullage/flight"
	"ullage/nav"
	"ullage/span"
)

// toy is a small planet that turns fast and is far from round.
func toy() api.Planet {
	return api.Planet{Mu: parts(100, 101, 10), Radius: whole(5), Oblate: parts(10, 11, 100), Spin: parts(-51, -50, 1000), Pull: api.Box{parts(0, 1, 1000), whole(0), parts(-1, 1, 1000)}}
}

// aroundToy is a state near the toy.
func aroundToy() api.State {
	return api.State{T: -3, P: api.Box{parts(70, 71, 10), parts(0, 1, 10), parts(20, 21, 10)}, V: api.Box{parts(2, 3, 10), whole(1), parts(3, 3, 10)}, M: ints(10, 11)}
}

// TestPredict: P6.6.
func TestPredict(t *testing.T) {
	s := api.State{T: 3 * api.One, P: api.Box{ints(0, 1), whole(0), whole(0)}, V: box(2, 0, 0), M: ints(1, 2)}
	falling := api.Planet{Radius: whole(9), Pull: box(0, -1, 1)}
	for _, c := range []struct {
		what   string
		p      api.Planet
		acc    api.Box
		h      api.Num
		place  api.Box
		v      api.Box
		wanted api.Errno
	}{
		{"no force", api.Planet{}, api.Box{}, 2 * api.One, api.Box{ints(4, 5), whole(0), whole(0)}, box(2, 0, 0), api.OK},
		{"back", api.Planet{}, api.Box{}, -2 * api.One, api.Box{ints(-4, -3), whole(0), whole(0)}, box(2, 0, 0), api.OK},
		{"what was felt", api.Planet{}, box(1, 0, 0), 2 * api.One, api.Box{ints(6, 7), whole(0), whole(0)}, box(4, 0, 0), api.OK},
		{"what may have been felt", api.Planet{}, api.Box{ints(0, 1), ints(-1, 1), whole(3)}, 2 * api.One, api.Box{ints(4, 7), ints(-2, 2), whole(6)}, api.Box{ints(2, 4), ints(-2, 2), whole(6)}, api.OK},
		{"a pull", falling, api.Box{}, 2 * api.One, api.Box{ints(4, 5), whole(-2), whole(2)}, box(2, -2, 2), api.OK},
		{"a pull, and what was felt", falling, box(1, 1, 1), 2 * api.One, api.Box{ints(6, 7), whole(0), whole(4)}, box(4, 0, 4), api.OK},
		{"back, with both", falling, box(1, 1, 1), -2 * api.One, api.Box{ints(-2, -1), whole(0), whole(4)}, box(0, 0, -4), api.OK},
	} {
		got, e := nav.Predict(c.p, s, c.acc, c.h)
		want(t, c.what, got, e, api.State{T: s.T + c.h, P: c.place, V: c.v, M: s.M}, c.wanted)
	}
}

// TestPredictErrors: P6.6.
func TestPredictErrors(t *testing.T) {
	s, acc := aroundToy(), box(0, 0, 0)
	fail := func(what string, p api.Planet, s api.State, acc api.Box, h api.Num, wanted api.Errno) {
		t.Helper()
		got, e := nav.Predict(p, s, acc, h)
		want(t, what, got, e, api.State{}, wanted)
	}
	for _, p := range wrongPlanets() {
		fail("a wrong planet", p, s, acc, api.One, api.ErrArg)
	}
	for _, w := range wrongStates() {
		fail("a wrong state", toy(), w, acc, api.One, api.ErrArg)
	}
	pull := toy()
	for i := range 3 {
		pull.Pull[i] = point(api.MostNum)
	}
	for _, w := range wrongSpans() {
		for i := range 3 {
			wrong := box(1, 1, 1)
			wrong[i] = w
			fail("a wrong acceleration", toy(), s, wrong, api.One, api.ErrArg)
			fail("a wrong acceleration, and a sum that is too great", pull, s, wrong, api.One, api.ErrArg)
		}
	}
	fail("no time", toy(), s, acc, 0, api.ErrArg)
	fail("a time that is no number", toy(), s, acc, noNumber, api.ErrArg)
	fail("no time, and a sum that is too great", pull, s, box(1, 1, 1), 0, api.ErrArg)
	fail("a time that is no number, and a sum that is too great", pull, s, box(1, 1, 1), noNumber, api.ErrArg)
	pull.Mu.Lo = -1
	fail("a wrong planet, and a sum that is too great", pull, s, box(1, 1, 1), 1, api.ErrArg)
	fail("a wrong state, and a sum that is too great", api.Planet{Pull: pull.Pull}, wrongStates()[0], box(1, 1, 1), 1, api.ErrArg)
	for i := range 3 {
		one := api.Planet{}
		one.Pull[i] = point(api.MostNum)
		more := api.Box{}
		more[i] = point(1)
		fail("a sum that is too great", one, s, more, 1, api.ErrRange)
		// In the centre of the toy there is another error.
		one.Mu = whole(1)
		fail("a sum that is too great, before the step", one, api.State{M: whole(1)}, more, 1, api.ErrRange)
		one.Pull[i] = point(-api.MostNum)
		fail("the sum of what is no less is well", one, api.State{M: whole(1)}, more, 1, api.ErrZero)
	}
	fail("in the centre", toy(), api.State{M: whole(1)}, acc, 1, api.ErrZero)
	fail("no tube", api.Planet{Spin: whole(1)}, api.State{P: box(1, 0, 0), M: whole(1)}, acc, 2*api.One, api.ErrState)
	late := s
	late.T = api.MostNum
	fail("behind all times", toy(), late, acc, 1, api.ErrRange)
}

// TestPredictIsAStep: P6.6, on planets of any kind.
func TestPredictIsAStep(t *testing.T) {
	s := sample{8}
	good := 0
	for range 5000 {
		p, st := toy(), aroundToy()
		var acc api.Box
		for i := range 3 {
			p.Pull[i], acc[i] = s.around(s.in(ints(-1, 1)), api.One), s.around(s.in(ints(-1, 1)), api.One/4)
			st.P[i] = s.around(s.in(ints(-9, 9)), api.One)
		}
		h := s.in(api.Span{Lo: -api.One, Hi: api.One})
		if h == 0 {
			continue
		}
		felt := p
		for i := range 3 {
			felt.Pull[i], _ = span.Add(p.Pull[i], acc[i])
		}
		wanted, _, wantedE := flight.Step(felt, api.Arc{Time: 1, Step: 1}, st, h)
		got, e := nav.Predict(p, st, acc, h)
		want(t, "Predict", got, e, wanted, wantedE)
		if e == api.OK {
			good++
		}
	}
	if good < 500 {
		t.Errorf("only %d predictions", good)
	}
}

// TestPredictKeepsTheTruth: P6.8, for falls with what is felt, and exact numbers.
func TestPredictKeepsTheTruth(t *testing.T) {
	s := sample{9}
	for range 2000 {
		p := api.Planet{Radius: whole(3)}
		st := api.State{T: s.in(ints(-9, 9)), M: whole(1)}
		var acc api.Box
		for i := range 3 {
			p.Pull[i], acc[i] = s.part(ints(-1, 1)), s.part(ints(-2, 2))
			st.P[i], st.V[i] = s.part(ints(-9, 9)), s.part(ints(-3, 3))
		}
		h := 1 + s.in(ints(0, 3))
		if s.below(2) == 0 {
			h = -h
		}
		got, e := nav.Predict(p, st, acc, h)
		if e != api.OK {
			t.Fatalf("error %d", e)
		}
		time := rat(h)
		for i := range 3 {
			a := new(big.Rat).Add(rat(s.in(p.Pull[i])), rat(s.in(acc[i])))
			v, place := rat(s.in(st.V[i])), rat(s.in(st.P[i]))
			gain := new(big.Rat).Mul(a, time)
			after := new(big.Rat).Add(v, gain)
			mean := new(big.Rat).Mul(new(big.Rat).Add(v, after), big.NewRat(1, 2))
			there := new(big.Rat).Add(place, mean.Mul(mean, time))
			if !inside(got.V[i], after) || !inside(got.P[i], there) {
				t.Errorf("%v at %v is not in %v at %v", after, there, got.V[i], got.P[i])
			}
		}
	}
}

// TestFollow: P6.6.
func TestFollow(t *testing.T) {
	s := api.State{P: api.Box{ints(0, 1), whole(0), whole(0)}, V: box(2, 0, 0), M: whole(1)}
	felt := api.Update{H: 2 * api.One, Acc: box(1, 0, 0), Heard: []api.Radio{onX(ints(7, 9))}}
	calm := api.Update{H: api.One}
	state := func(seconds int, x api.Span, v int) api.State {
		return api.State{T: api.Num(seconds) * api.One, P: api.Box{x, whole(0), whole(0)}, V: box(v, 0, 0), M: whole(1)}
	}
	heard := func(l ...api.Radio) api.Update { return api.Update{H: api.One, Heard: l} }
	wrong := onX(ints(3, 2))
	never := onX(ints(80, 90))
	long := slices.Repeat([]api.Radio{wrong}, api.MaxRadios+1)
	states := []api.State{state(2, whole(7), 4), state(3, whole(11), 4)}
	free := []api.State{state(2, ints(6, 7), 4), state(3, ints(10, 11), 4)}
	for _, c := range []struct {
		what   string
		l      []api.Update
		rounds int
		wanted []api.State
		n      int
		e      api.Errno
	}{
		{"no updates", nil, 4, nil, 0, api.OK},
		{"an empty list", []api.Update{}, 4, nil, 0, api.OK},
		{"two updates", []api.Update{felt, calm}, 1, states, 2, api.OK},
		{"two updates without rounds", []api.Update{felt, calm}, 0, free, 2, api.OK},
		{"what cannot be, without rounds", []api.Update{{H: felt.H, Acc: felt.Acc, Heard: []api.Radio{never}}, calm}, 0, free, 2, api.OK},
		{"what cannot be at first", []api.Update{heard(never), calm}, 1, nil, 0, api.ErrNone},
		{"what cannot be then", []api.Update{felt, heard(never), calm}, 1, states[:1], 1, api.ErrNone},
		{"what cannot be at the end", []api.Update{felt, calm, heard(never)}, 1, states, 2, api.ErrNone},
		{"what is wrong", []api.Update{felt, heard(onX(ints(0, 99)), wrong)}, 1, states[:1], 1, api.ErrArg},
		{"what is wrong, behind what cannot be", []api.Update{felt, heard(never, wrong)}, 1, states[:1], 1, api.ErrArg},
		{"what is wrong, without rounds", []api.Update{felt, heard(wrong)}, 0, free[:1], 1, api.ErrArg},
		{"too much", []api.Update{felt, heard(long...), {}}, 1, states[:1], 1, api.ErrLong},
		{"as much as may be", []api.Update{felt, heard(slices.Repeat([]api.Radio{onX(ints(0, 99))}, api.MaxRadios)...)}, 1, states, 2, api.OK},
		{"no time", []api.Update{felt, {}, calm}, 1, states[:1], 1, api.ErrArg},
		{"no time, before what is heard", []api.Update{felt, {Heard: long}}, 1, states[:1], 1, api.ErrArg},
		{"too long a time, before what is heard", []api.Update{felt, {H: api.MostNum, Heard: long}}, 1, states[:1], 1, api.ErrRange},
		{"a wrong acceleration", []api.Update{felt, calm, {H: 1, Acc: api.Box{wrongSpans()[0]}}}, 1, states, 2, api.ErrArg},
		{"back", []api.Update{felt, {H: -felt.H, Acc: felt.Acc}}, 1, []api.State{states[0], state(0, whole(1), 2)}, 2, api.OK},
		{"too few rounds", []api.Update{felt}, -1, nil, 0, api.ErrArg},
		{"too many rounds", nil, api.MaxFuse + 1, nil, 0, api.ErrArg},
	} {
		before := slices.Clone(c.l)
		got, n, e := nav.Follow(api.Planet{}, s, c.l, c.rounds)
		wantList(t, c.what, got, e, c.wanted, c.e)
		want(t, c.what+", the index", n, e, c.n, c.e)
		for i, u := range before {
			if u.H != c.l[i].H || u.Acc != c.l[i].Acc || !slices.Equal(u.Heard, c.l[i].Heard) {
				t.Errorf("%s: the update %d is changed", c.what, i)
			}
		}
	}
}

// TestFollowLimits: P6.6.
func TestFollowLimits(t *testing.T) {
	s := api.State{V: box(1, 0, 0), M: whole(1)}
	most := slices.Repeat([]api.Update{{H: api.One}}, api.MaxUpdates)
	more := append(slices.Clone(most), api.Update{})
	got, n, e := nav.Follow(api.Planet{}, s, most, 1)
	if len(got) != api.MaxUpdates || n != api.MaxUpdates || e != api.OK || got[n-1].P != box(api.MaxUpdates, 0, 0) {
		t.Errorf("as many updates as may be: %d states, %d, error %d", len(got), n, e)
	}
	fail := func(what string, p api.Planet, s api.State, l []api.Update, rounds int, wanted api.Errno) {
		t.Helper()
		got, n, e := nav.Follow(p, s, l, rounds)
		wantList(t, what, got, e, nil, wanted)
		want(t, what+", the index", n, e, 0, wanted)
	}
	fail("an update more", api.Planet{}, s, more, 1, api.ErrLong)
	fail("an update more, the first of which is wrong", api.Planet{}, s, append([]api.Update{{}}, most...), 1, api.ErrLong)
	fail("an update more, and too many rounds", api.Planet{}, s, more, 17, api.ErrArg)
	for _, p := range wrongPlanets() {
		for _, l := range [][]api.Update{nil, most[:2], more} {
			fail("a wrong planet", p, s, l, 1, api.ErrArg)
		}
	}
	for _, w := range wrongStates() {
		for _, l := range [][]api.Update{nil, most[:2], more} {
			fail("a wrong state", api.Planet{}, w, l, 1, api.ErrArg)
		}
	}
}

// TestFollowByBook: P6.6. It is Predict and Fuse, by turns, up to the first error; what it returns shares no memory.
func TestFollowByBook(t *testing.T) {
	s := sample{10}
	ends := map[api.Errno]int{}
	for range 400 {
		rounds := s.below(4)
		var l []api.Update
		for range s.below(12) {
			u := api.Update{H: 1 + s.in(parts(0, 1, 8))}
			for i := range 3 {
				u.Acc[i] = s.around(0, api.One/16)
			}
			for range s.below(3) {
				value := s.around(7*api.One, 2*api.One)
				u.Heard = append(u.Heard, api.Radio{Kind: s.below(2), Value: value}, api.Radio{Kind: alongPlace, Dir: box(1, 0, 0), Value: ints(3, 9)})
			}
			l = append(l, u)
		}
		var wanted []api.State
		at, wantedE := aroundToy(), api.OK
		for _, u := range l {
			next, e := nav.Predict(toy(), at, u.Acc, u.H)
			if e == api.OK {
				next, _, e = nav.Fuse(next, u.Heard, rounds)
			}
			if wantedE = e; e != api.OK {
				break
			}
			at = next
			wanted = append(wanted, at)
		}
		got, n, e := nav.Follow(toy(), aroundToy(), l, rounds)
		wantList(t, "Follow", got, e, wanted, wantedE)
		want(t, "the index", n, e, len(wanted), wantedE)
		ends[e]++
	}
	if ends[api.OK] < 50 || ends[api.ErrNone] < 50 {
		t.Errorf("the errors are %v", ends)
	}
}
