package avionics_test

import (
	"slices"
	"strings"
	"testing"

	"ullage/api"
	"ullage/avionics"
)

// most is the greatest size of readings and of what is asked of voters, by the chapter.
const most = 1 << 30

// none is a reading that is not there.
var none = api.Reading{}

// is returns a reading that is there.
func is(n int) api.Reading { return api.Reading{Value: n, There: true} }

// are returns readings that are all there.
func are(l ...int) []api.Reading {
	var r []api.Reading
	for _, n := range l {
		r = append(r, is(n))
	}
	return r
}

// newVoter returns a voter.
func newVoter(t *testing.T, channels, tolerance, patience int) *avionics.Voter {
	t.Helper()
	v, e := avionics.NewVoter(channels, tolerance, patience)
	if v == nil || e != api.OK {
		t.Fatalf("NewVoter(%d, %d, %d): error %d", channels, tolerance, patience, e)
	}
	return v
}

// wantVote checks the value of a round.
func wantVote(t *testing.T, v *avionics.Voter, l []api.Reading, wanted int) {
	t.Helper()
	if n, e := v.Vote(l); n != wanted || e != api.OK {
		t.Errorf("vote of %v: %d, error %d; want %d", l, n, e, wanted)
	}
}

// wantRefused checks the error of a round.
func wantRefused(t *testing.T, v *avionics.Voter, l []api.Reading, wanted api.Errno) {
	t.Helper()
	if n, e := v.Vote(l); n != 0 || e != wanted {
		t.Errorf("vote of %v: %d, error %d; want error %d", l, n, e, wanted)
	}
}

// wantChannels checks which channels are live, and their counts; -1 stands for a channel that is removed.
func wantChannels(t *testing.T, v *avionics.Voter, wanted ...int) {
	t.Helper()
	live, counts := v.Live(), v.Counts()
	var got []int
	for i := range live {
		if !live[i] && counts[i] != 0 {
			t.Errorf("channel %d is removed, with the count %d", i, counts[i])
		}
		if !live[i] {
			got = append(got, -1)
			continue
		}
		got = append(got, counts[i])
	}
	if !slices.Equal(got, wanted) || len(counts) != len(live) {
		t.Errorf("channels %v, want %v", got, wanted)
	}
}

// name returns a name of so many bytes, which begins with a letter that tells it from others.
func name(i, length int) string { return string(rune('a'+i)) + strings.Repeat("-", length-1) }

// message returns a message with the name of its index.
func message(i, size, period, deadline int) api.Message {
	return api.Message{Name: name(i, 1), Size: size, Period: period, Deadline: deadline}
}

// messages returns messages from rows of Size, Period and Deadline.
func messages(rows ...[3]int) []api.Message {
	var l []api.Message
	for i, r := range rows {
		l = append(l, message(i, r[0], r[1], r[2]))
	}
	return l
}

// wantTable checks the table of some messages, and that it serves them.
func wantTable(t *testing.T, l []api.Message, wanted []int) {
	t.Helper()
	table, witness, e := avionics.Schedule(l)
	if !slices.Equal(table, wanted) || witness != [2]int{} || e != api.OK {
		t.Errorf("table %v, witness %v, error %d of %v; want %v", table, witness, e, l, wanted)
	}
	if !avionics.Serves(l, table) {
		t.Errorf("table %v does not serve %v", table, l)
	}
}

// wantWitness checks that some messages have no table, and the witness of it.
func wantWitness(t *testing.T, l []api.Message, begin, end int) {
	t.Helper()
	table, witness, e := avionics.Schedule(l)
	if len(table) > 0 || witness != [2]int{begin, end} || e != api.ErrNone {
		t.Errorf("table %v, witness %v, error %d of %v; want %d and %d", table, witness, e, l, begin, end)
	}
}

// wantCycleError checks the error of Cycle, and of all that ask for the cycle.
func wantCycleError(t *testing.T, what string, l []api.Message, wanted api.Errno) {
	t.Helper()
	cycle, e := avionics.Cycle(l)
	if e != wanted || e != api.OK && cycle != 0 {
		t.Errorf("%s: cycle %d, error %d, want %d", what, cycle, e, wanted)
	}
	if wanted == api.OK {
		return
	}
	if table, witness, e := avionics.Schedule(l); len(table) > 0 || witness != [2]int{} || e != wanted {
		t.Errorf("%s: table %v, witness %v, error %d, want %d", what, table, witness, e, wanted)
	}
	for _, n := range []int{0, 1, 4} {
		if avionics.Serves(l, slices.Repeat([]int{-1}, n)) || avionics.Serves(l, make([]int, n)) {
			t.Errorf("%s: it is served", what)
		}
	}
}

// council returns a council.
func council(n, f int, faulty ...int) api.Council { return api.Council{N: n, F: f, Faulty: faulty} }

// lie returns a lie in frame 0.
func lie(to, value int, path ...int) api.Lie { return api.Lie{Path: path, To: to, Value: value} }

// inFrame returns a lie in another frame.
func inFrame(frame int, l api.Lie) api.Lie {
	l.Frame = frame
	return l
}

// wantDecided checks what the members of a council decide.
func wantDecided(t *testing.T, c api.Council, general, value int, lies []api.Lie, wanted ...int) {
	t.Helper()
	if l, e := avionics.Agree(c, general, value, lies); !slices.Equal(l, wanted) || e != api.OK {
		t.Errorf("%v decides %v, error %d about %d of %d, with %v; want %v", c, l, e, value, general, lies, wanted)
	}
}

// wantCuts checks when the strings of a council cut.
func wantCuts(t *testing.T, c api.Council, votes [][]int, lies []api.Lie, wanted ...int) {
	t.Helper()
	if l, e := avionics.CutOff(c, votes, lies); !slices.Equal(l, wanted) || e != api.OK {
		t.Errorf("%v cuts at %v, error %d, with %v and %v; want %v", c, l, e, votes, lies, wanted)
	}
}

// sample makes numbers in a fixed order that looks like none.
type sample struct{ state uint64 }

// next returns a number of 64 bits.
func (s *sample) next() uint64 {
	s.state = s.state*6364136223846793005 + 1442695040888963407
	n := s.state
	n ^= n >> 29
	n *= 0xbf58476d1ce4e5b9
	return n ^ n>>32
}

// below returns a number from 0 to below n.
func (s *sample) below(n int) int { return int(s.next() % uint64(n)) }

// from returns a number from low to high.
func (s *sample) from(low, high int) int { return low + s.below(high-low+1) }

// yes returns true once in n times.
func (s *sample) yes(n int) bool { return s.below(n) == 0 }

// wild returns any number, often one at an edge.
func (s *sample) wild() int {
	l := []int{-1 << 63, -1, 0, 1, 2, 3, 7, 8, 20, 1000, 1001, most, most + 1, -most, -most - 1, 1<<63 - 1, int(s.next())}
	return l[s.below(len(l))]
}

// messages returns a valid list of few messages whose periods are divisors of a cycle.
func (s *sample) messages(most, cycle int) []api.Message {
	var l []api.Message
	for i := range s.from(1, most) {
		period := s.from(1, cycle)
		for cycle%period > 0 {
			period--
		}
		deadline := s.from(1, period)
		if s.yes(2) {
			deadline = period
		}
		l = append(l, message(i, s.from(1, 1+s.below(deadline)), period, deadline))
	}
	return l
}

// council returns a council of n members, of which some, at most f, are faulty.
func (s *sample) council(n, f int) api.Council {
	c := council(n, f)
	for i := range n {
		if len(c.Faulty) < f && s.yes(1+n/2) {
			c.Faulty = append(c.Faulty, i)
		}
	}
	return c
}

// lies returns lies in some frames; most of them are told, by faulty members of the council.
func (s *sample) lies(c api.Council, count, frames, values int) []api.Lie {
	var l []api.Lie
	for range count {
		var p []int
		for range s.from(1, c.F+1) {
			i := s.below(c.N)
			if !slices.Contains(p, i) {
				p = append(p, i)
			}
		}
		if len(c.Faulty) > 0 && !s.yes(10) {
			i := c.Faulty[s.below(len(c.Faulty))]
			if at := slices.Index(p, i); at >= 0 {
				p = p[:at]
			}
			p = append(p, i)
		}
		l = append(l, api.Lie{Frame: s.below(frames), Path: p, To: s.below(c.N), Value: s.below(values)})
	}
	return l
}

// votes returns votes in some frames, a third of them for 1.
func (s *sample) votes(n, frames int) [][]int {
	var l [][]int
	for range frames {
		var v []int
		for range n {
			vote := 0
			if s.yes(3) {
				vote = 1
			}
			v = append(v, vote)
		}
		l = append(l, v)
	}
	return l
}
