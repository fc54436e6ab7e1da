package avionics_test

import (
	"slices"
	"testing"

	"ullage/api"
	"ullage/avionics"
)

// TestNewVoter: P8.1, the ranges of NewVoter.
func TestNewVoter(t *testing.T) {
	for _, c := range []struct {
		channels, tolerance, patience int
		e                             api.Errno
	}{
		{1, 0, 0, api.OK}, {api.MaxChannels, most, most, api.OK}, {8, 0, most, api.OK}, {2, most, 0, api.OK},
		{0, 0, 0, api.ErrRange}, {-1, 0, 0, api.ErrRange}, {9, 0, 0, api.ErrRange}, {1<<63 - 1, 0, 0, api.ErrRange}, {-1 << 63, 0, 0, api.ErrRange},
		{1, -1, 0, api.ErrRange}, {1, most + 1, 0, api.ErrRange}, {1, 0, -1, api.ErrRange}, {1, 0, most + 1, api.ErrRange},
	} {
		v, e := avionics.NewVoter(c.channels, c.tolerance, c.patience)
		if e != c.e || (v != nil) != (e == api.OK) {
			t.Errorf("%v: %v, error %d", c, v, e)
		}
	}
}

// TestFirst: P8.2, a new voter.
func TestFirst(t *testing.T) {
	for n := 1; n <= api.MaxChannels; n++ {
		wantChannels(t, newVoter(t, n, 3, 4), make([]int, n)...)
	}
}

// TestChapterVotes: the chapter's examples.
func TestChapterVotes(t *testing.T) {
	v := newVoter(t, 3, 2, 1)
	wantVote(t, v, are(5, 6, 50), 6)
	wantChannels(t, v, 0, 0, 1)
	wantVote(t, v, are(5, 6, 50), 6)
	wantChannels(t, v, 0, 0, -1)
	wantVote(t, v, are(5, 9, 50), 5)
	wantVote(t, v, are(5, 9, 50), 5)
	wantChannels(t, v, 0, 2, -1)
}

// TestVoteErrors: P8.1; what is refused, in order, and that nothing changes then.
func TestVoteErrors(t *testing.T) {
	v := newVoter(t, 3, 0, 5)
	wantVote(t, v, are(1, 1, 2), 1)
	for range 3 {
		wantRefused(t, v, nil, api.ErrArg)
		wantRefused(t, v, are(7, 7), api.ErrArg)
		wantRefused(t, v, are(7, 7, 7, 7), api.ErrArg)
		wantRefused(t, v, are(most+1, 7), api.ErrArg)
		wantRefused(t, v, []api.Reading{none, none}, api.ErrArg)
		wantRefused(t, v, are(most+1, 7, 7), api.ErrRange)
		wantRefused(t, v, are(7, 7, -most-1), api.ErrRange)
		wantRefused(t, v, are(7, -1<<63, 7), api.ErrRange)
		wantRefused(t, v, []api.Reading{none, none, is(1<<63 - 1)}, api.ErrRange)
		wantRefused(t, v, []api.Reading{none, none, none}, api.ErrNone)
		wantRefused(t, v, []api.Reading{{Value: 1}, {Value: most + 1}, {Value: -1 << 63}}, api.ErrNone)
		wantChannels(t, v, 0, 0, 1)
	}
	wantVote(t, v, []api.Reading{{Value: most + 1}, is(most), {Value: -most - 1}}, most)
	wantVote(t, v, []api.Reading{is(-most), is(-most), none}, -most)
}

// TestRemovedReadings: P8.1; readings of removed channels do not count, but must be in their range.
func TestRemovedReadings(t *testing.T) {
	v := newVoter(t, 3, 1, 0)
	wantVote(t, v, are(9, 10, 50), 10)
	wantChannels(t, v, 0, 0, -1)
	wantRefused(t, v, are(9, 10, most+1), api.ErrRange)
	wantRefused(t, v, []api.Reading{none, none, is(50)}, api.ErrNone)
	wantRefused(t, v, []api.Reading{none, none, {Value: most + 1}}, api.ErrNone)
	wantChannels(t, v, 0, 0, -1)
	wantVote(t, v, are(9, 10, 11), 9)
	wantVote(t, v, are(9, 10, -1000), 9)
	wantVote(t, v, []api.Reading{none, is(10), is(0)}, 10)
	wantVote(t, v, []api.Reading{is(10), is(10), none}, 10)
	wantChannels(t, v, 0, 0, -1)
}

// TestMedians: P8.1; the median, or the lower one of the two in the middle.
func TestMedians(t *testing.T) {
	for _, c := range []struct {
		l      []int
		wanted int
	}{
		{[]int{7}, 7}, {[]int{9, 7}, 7}, {[]int{-7, -9}, -9}, {[]int{3, 1, 2}, 2}, {[]int{4, 1, 3, 2}, 2}, {[]int{5, 5, 1, 9, 0}, 5},
		{[]int{6, 5, 4, 3, 2, 1}, 3}, {[]int{70, 10, 60, 20, 50, 30, 40}, 40}, {[]int{8, 7, 6, 5, 4, 3, 2, 1}, 4},
		{[]int{-most, most}, -most}, {[]int{most, most, -most}, most}, {[]int{10, 9, 100}, 10},
	} {
		wantVote(t, newVoter(t, len(c.l), most, 0), are(c.l...), c.wanted)
	}
	v := newVoter(t, 5, 0, most)
	wantVote(t, v, []api.Reading{is(9), none, is(7), {Value: 8}, is(8)}, 8)
	wantVote(t, v, []api.Reading{none, is(4), {Value: 1}, is(3), {Value: 2}}, 3)
	wantVote(t, v, []api.Reading{none, none, none, is(-3), none}, -3)
}

// TestTolerance: P8.1; a reading that differs by just the tolerance agrees, on both sides.
func TestTolerance(t *testing.T) {
	v := newVoter(t, 5, 10, most)
	wantVote(t, v, are(-10, 10, 0, -11, 11), 0)
	wantChannels(t, v, 0, 0, 0, 1, 1)
	wantVote(t, v, are(89, 111, 100, 90, 110), 100)
	wantChannels(t, v, 1, 1, 0, 0, 0)

	v = newVoter(t, 3, 0, most)
	wantVote(t, v, are(5, 6, 4), 5)
	wantVote(t, v, are(5, 6, 5), 5)
	wantChannels(t, v, 0, 2, 0)

	v = newVoter(t, 3, most, most)
	wantVote(t, v, are(-most, -most, 0), -most)
	wantVote(t, v, are(-most, -most, 1), -most)
	wantChannels(t, v, 0, 0, 1)
	wantVote(t, v, are(most, 0, most), most)
	wantVote(t, v, are(most, -1, most), most)
	wantChannels(t, v, 0, 1, 0)
}

// TestCounts: P8.2; counts are of rounds one after the other, and those without a reading count, but not rounds without a value.
func TestCounts(t *testing.T) {
	v := newVoter(t, 3, 0, 9)
	wantVote(t, v, []api.Reading{is(1), is(1), none}, 1)
	wantVote(t, v, are(1, 1, 7), 1)
	wantVote(t, v, []api.Reading{is(1), none, {Value: 1}}, 1)
	wantChannels(t, v, 0, 1, 3)
	wantRefused(t, v, make([]api.Reading, 3), api.ErrNone)
	wantChannels(t, v, 0, 1, 3)
	wantVote(t, v, are(1, 2, 2), 2)
	wantChannels(t, v, 1, 0, 0)
	wantVote(t, v, []api.Reading{none, none, is(-5)}, -5)
	wantChannels(t, v, 2, 1, 0)
}

// TestPatience: P8.1; a channel is removed when its count is above the patience, and never comes back.
func TestPatience(t *testing.T) {
	for patience := range 4 {
		v := newVoter(t, 4, 0, patience)
		for i := range patience {
			wantVote(t, v, are(3, 3, 8, 3), 3)
			wantChannels(t, v, 0, 0, i+1, 0)
		}
		wantVote(t, v, []api.Reading{is(3), is(3), none, is(3)}, 3)
		wantChannels(t, v, 0, 0, -1, 0)
		for range 3 {
			wantVote(t, v, are(3, 3, 3, 3), 3)
			wantChannels(t, v, 0, 0, -1, 0)
		}
	}
}

// TestTwoAreLeft: P8.1; channels are removed by rising index, as long as more than two are live.
func TestTwoAreLeft(t *testing.T) {
	v := newVoter(t, 8, 0, 0)
	wantVote(t, v, are(8, 1, 2, 3, 4, 5, 6, 7), 4)
	wantChannels(t, v, -1, -1, -1, -1, 0, -1, -1, 1)

	v = newVoter(t, 4, 0, 0)
	wantVote(t, v, []api.Reading{none, none, none, is(5)}, 5)
	wantChannels(t, v, -1, -1, 1, 0)
	wantVote(t, v, []api.Reading{is(5), is(5), is(4), is(9)}, 4)
	wantChannels(t, v, -1, -1, 0, 1)
	for i := range 5 {
		wantVote(t, v, []api.Reading{none, none, is(4), none}, 4)
		wantChannels(t, v, -1, -1, 0, i+2)
	}

	v = newVoter(t, 3, 0, 1)
	wantVote(t, v, []api.Reading{is(5), none, none}, 5)
	wantChannels(t, v, 0, 1, 1)
	wantVote(t, v, []api.Reading{is(5), none, none}, 5)
	wantChannels(t, v, 0, -1, 2)
}

// TestFew: P8.1; of one or two channels none is ever removed.
func TestFew(t *testing.T) {
	v := newVoter(t, 2, 0, 0)
	for i := range 4 {
		wantVote(t, v, are(9, 8), 8)
		wantChannels(t, v, i+1, 0)
	}
	wantVote(t, v, []api.Reading{is(9), none}, 9)
	wantChannels(t, v, 0, 1)

	v = newVoter(t, 1, 0, 0)
	wantVote(t, v, are(most), most)
	wantRefused(t, v, []api.Reading{none}, api.ErrNone)
	wantVote(t, v, are(-most), -most)
	wantChannels(t, v, 0)
}

// TestVoterStrangers: P8.1, P8.2, R3; what NewVoter did not return is no voter, and ErrNil comes first.
func TestVoterStrangers(t *testing.T) {
	another := *newVoter(t, 3, 1, 1)
	for what, v := range map[string]*avionics.Voter{"nil": nil, "zero": {}, "a copy": &another} {
		for _, l := range [][]api.Reading{nil, are(1, 2, 3), are(most + 1), make([]api.Reading, 3)} {
			wantRefused(t, v, l, api.ErrNil)
		}
		if len(v.Live())+len(v.Counts()) > 0 {
			t.Error(what, "has channels")
		}
	}
}

// TestVoterMemory: R4; a voter keeps nothing of readings, changes none, and gives out nothing of its own.
func TestVoterMemory(t *testing.T) {
	v, w := newVoter(t, 3, 1, 5), newVoter(t, 3, 1, 5)
	l := []api.Reading{is(9), {Value: 4}, is(5)}
	before := slices.Clone(l)
	wantVote(t, v, l, 5)
	if !slices.Equal(l, before) {
		t.Errorf("the readings are now %v", l)
	}
	l[0], l[1] = is(0), is(0)
	wantChannels(t, v, 1, 1, 0)
	v.Live()[0], v.Counts()[0] = false, 77
	wantChannels(t, v, 1, 1, 0)
	wantChannels(t, w, 0, 0, 0)
}

// plainVoter votes as the chapter says, word by word.
type plainVoter struct {
	tolerance, patience int
	live                []bool
	counts              []int
}

// vote returns the value of a round, if it has one.
func (v *plainVoter) vote(l []api.Reading) (int, bool) {
	var values []int
	for i, r := range l {
		if v.live[i] && r.There {
			values = append(values, r.Value)
		}
	}
	if len(values) == 0 {
		return 0, false
	}
	value := least(values, (len(values)-1)/2)
	for i, r := range l {
		if v.live[i] {
			v.counts[i]++
		}
		if d := r.Value - value; v.live[i] && r.There && max(d, -d) <= v.tolerance {
			v.counts[i] = 0
		}
	}
	for i := range l {
		if n := countTrue(v.live); v.live[i] && v.counts[i] > v.patience && n > 2 {
			v.live[i], v.counts[i] = false, 0
		}
	}
	return value, true
}

// countTrue returns how many elements of a list are true.
func countTrue(l []bool) int {
	n := 0
	for _, x := range l {
		if x {
			n++
		}
	}
	return n
}

// least returns the value that stands at a place, when a list is in ascending order: so many are less than it, and not more with those that are equal.
func least(l []int, place int) int {
	for _, x := range l {
		less, same := 0, 0
		for _, y := range l {
			if y < x {
				less++
			}
			if y == x {
				same++
			}
		}
		if less <= place && place < less+same {
			return x
		}
	}
	panic("no such place")
}

// round returns readings that are mostly there, and often near each other.
func (s *sample) round(n int) []api.Reading {
	l := make([]api.Reading, n)
	for i := range l {
		l[i] = api.Reading{Value: s.from(-4, 4), There: !s.yes(6)}
		if s.yes(5) {
			l[i].Value = s.from(-most, most)
		}
	}
	return l
}

// TestVotesByWord: P8.1, P8.2; many rounds against the chapter word by word.
func TestVotesByWord(t *testing.T) {
	r := &sample{1}
	removed := 0
	for range 3000 {
		n := r.from(1, api.MaxChannels)
		v := &plainVoter{r.below(4), r.below(4), slices.Repeat([]bool{true}, n), make([]int, n)}
		got := newVoter(t, n, v.tolerance, v.patience)
		for range 25 {
			l := r.round(n)
			value, ok := v.vote(l)
			x, e := got.Vote(l)
			if x != value || ok != (e == api.OK) || !ok && e != api.ErrNone {
				t.Fatalf("value %d, error %d; want %d, %v", x, e, value, ok)
			}
			if !slices.Equal(got.Live(), v.live) || !slices.Equal(got.Counts(), v.counts) {
				t.Fatalf("%v, %v; want %v, %v", got.Live(), got.Counts(), v.live, v.counts)
			}
		}
		removed += n - countTrue(v.live)
	}
	if removed < 1000 {
		t.Errorf("%d removed channels", removed)
	}
}

// TestMajorityValue: P8.8; if more than half of the values that count are in a range, the value of the round is.
func TestMajorityValue(t *testing.T) {
	r := &sample{2}
	held := 0
	for range 20000 {
		v := newVoter(t, 8, r.below(5), r.below(3))
		for range 3 {
			l, live := r.round(8), v.Live()
			low := r.from(-4, 4)
			high := r.from(low, 5)
			within, counting := 0, 0
			for i, x := range l {
				if live[i] && x.There {
					counting++
				}
				if live[i] && x.There && low <= x.Value && x.Value <= high {
					within++
				}
			}
			value, e := v.Vote(l)
			if 2*within <= counting {
				continue
			}
			held++
			if value < low || value > high || e != api.OK {
				t.Fatalf("value %d, error %d; not from %d to %d", value, e, low, high)
			}
		}
	}
	if held < 5000 {
		t.Errorf("%d rounds", held)
	}
}

// TestGoodChannelsStay: P8.8, P0.4; more than half of all channels, which are always there and near each other, are never removed, and the value is among theirs, whatever the others read.
func TestGoodChannelsStay(t *testing.T) {
	r := &sample{3}
	for range 2000 {
		n, tolerance := r.from(1, 8), r.below(100)
		v := newVoter(t, n, tolerance, r.below(2))
		good := n/2 + 1
		first := r.below(n)
		for range 30 {
			l, base := r.round(n), r.from(-most, most-tolerance)
			low, high := most, -most
			for i := range good {
				value := base + r.from(0, tolerance)
				low, high = min(low, value), max(high, value)
				l[(first+i)%n] = is(value)
			}
			if bad := (first + good) % n; good < n && r.yes(2) {
				l[bad] = is(max(base-r.below(3), -most))
			}
			if value, e := v.Vote(l); value < low || value > high || e != api.OK {
				t.Fatalf("value %d, error %d; not from %d to %d", value, e, low, high)
			}
			for i := range good {
				if j := (first + i) % n; !v.Live()[j] || v.Counts()[j] != 0 {
					t.Fatalf("channel %d is removed, or counts", j)
				}
			}
		}
	}
}
