package avionics_test

import (
	"slices"
	"testing"

	"ullage/api"
	"ullage/avionics"
)

// TestCutOffErrors: P8.6, in order.
func TestCutOffErrors(t *testing.T) {
	c := council(4, 1, 0)
	frames := slices.Repeat([][]int{{0, 0, 0, 0}}, api.MaxFrames)
	wantCuts(t, c, frames, make([]api.Lie, api.MaxLies), -1, -1, -1, -1)
	wrong := slices.Repeat([][]int{{2}}, api.MaxFrames+1)
	for what, x := range map[string]struct {
		votes [][]int
		lies  int
		e     api.Errno
	}{
		"frames": {append(frames, frames[0]), 0, api.ErrLong}, "lies": {frames, api.MaxLies + 1, api.ErrLong}, "wrong votes in frames": {wrong, 0, api.ErrLong}, "lies about wrong votes": {wrong[:1], api.MaxLies + 1, api.ErrLong},
		"no votes": {[][]int{{}}, 0, api.ErrArg}, "three votes": {[][]int{{0, 0, 0}}, 0, api.ErrArg}, "five votes": {[][]int{{0, 0, 0, 0, 0}}, 0, api.ErrArg}, "four votes and more": {[][]int{{0, 0, 0, 0, 7}}, 0, api.ErrArg}, "a nil frame": {make([][]int, 3), 0, api.ErrArg},
		"vote 2": {[][]int{{0, 2, 0, 0}}, 0, api.ErrArg}, "vote -1": {[][]int{{0, 0, 0, -1}}, 0, api.ErrArg}, "a faulty vote": {[][]int{{2, 0, 0, 0}}, 0, api.ErrArg},
		"the last frame": {[][]int{{1, 1, 1, 1}, {1, 1, 1, 1<<63 - 1}}, 0, api.ErrArg},
	} {
		if l, e := avionics.CutOff(c, x.votes, make([]api.Lie, x.lies)); len(l) > 0 || e != x.e {
			t.Errorf("%s: %v, error %d, want %d", what, l, e, x.e)
		}
	}
}

// TestCuts: P8.6; by hand, also the chapter's example.
func TestCuts(t *testing.T) {
	c := council(4, 1, 0)
	wantCuts(t, c, [][]int{{0, 1, 0, 0}, {0, 1, 1, 0}}, nil, -1, 1, 1, 1)
	wantCuts(t, c, nil, nil, -1, -1, -1, -1)
	wantCuts(t, c, [][]int{{1, 1, 0, 0}, {1, 0, 1, 0}, {1, 0, 0, 1}}, nil, -1, -1, -1, -1)
	wantCuts(t, c, [][]int{{0, 0, 0, 0}, {1, 0, 1, 0}, {0, 1, 0, 1}, {0, 1, 1, 1}}, nil, -1, 2, 2, 2)
	wantCuts(t, c, [][]int{{0, 1, 1, 1}, {0, 0, 0, 0}}, nil, -1, 0, 0, 0)
	wantCuts(t, council(4, 1), [][]int{{1, 0, 0, 0}, {1, 0, 0, 1}}, nil, 1, 1, 1, 1)
	wantCuts(t, council(3, 0), [][]int{{0, 0, 0}, {0, 0, 1}}, nil, 1, 1, 1)
	wantCuts(t, council(1, 0), [][]int{{0}, {0}, {1}}, nil, 2)
	wantCuts(t, council(7, 2, 2, 6), [][]int{{1, 1, 1, 0, 0, 0, 1}, {1, 1, 1, 0, 0, 1, 1}}, nil, 1, 1, -1, 1, 1, 1, -1)
	last := slices.Repeat([][]int{{0, 0, 0, 0}}, api.MaxFrames)
	last[19] = []int{0, 1, 1, 0}
	wantCuts(t, c, last, nil, -1, 19, 19, 19)
}

// TestCutsOfLiars: P8.6; what a faulty string tells of its vote in a frame.
func TestCutsOfLiars(t *testing.T) {
	c, votes := council(4, 1, 0), [][]int{{0, 1, 0, 0}, {0, 1, 0, 0}, {1, 0, 0, 0}}
	aye := []api.Lie{lie(1, 1, 0), lie(2, 1, 0)}
	wantCuts(t, c, votes, aye, -1, 0, 0, 0)
	wantCuts(t, c, votes, []api.Lie{inFrame(1, aye[0]), inFrame(1, aye[1])}, -1, 1, 1, 1)
	wantCuts(t, c, votes, []api.Lie{inFrame(0, aye[0]), inFrame(1, aye[1])}, -1, -1, -1, -1)
	wantCuts(t, c, votes, []api.Lie{inFrame(2, aye[0]), inFrame(2, aye[1]), inFrame(-1, aye[0]), inFrame(-1, aye[1]), inFrame(3, aye[0])}, -1, -1, -1, -1)
	wantCuts(t, c, votes, []api.Lie{lie(1, 2, 0), lie(2, 2, 0), lie(3, 2, 0)}, -1, -1, -1, -1)
	wantCuts(t, c, votes, []api.Lie{lie(1, -1, 0), lie(2, -1, 0), lie(3, 1, 0)}, -1, -1, -1, -1)
	wantCuts(t, c, votes, append([]api.Lie{lie(1, 0, 0)}, aye...), -1, -1, -1, -1)
	wantCuts(t, c, votes, []api.Lie{lie(2, 1, 3, 0), lie(1, 1, 2, 0), lie(3, 0, 1, 0), lie(1, 1, 3)}, -1, -1, -1, -1)
	wantCuts(t, council(4, 1), votes, aye, -1, -1, -1, -1)
}

// TestCutsByWord: P8.6, P8.11, P0.4; cuts against the chapter word by word, and against what they promise.
func TestCutsByWord(t *testing.T) {
	r := &sample{7}
	cut, uncut := 0, 0
	for range 600 {
		size := [][2]int{{4, 1}, {5, 1}, {6, 1}, {7, 1}, {7, 2}, {7, 2}, {2, 0}}[r.below(7)]
		c, frames := r.council(size[0], size[1]), r.below(5)
		votes, lies := r.votes(c.N, frames), r.lies(c, r.below(250), frames+1, 3)
		got, e := avionics.CutOff(c, votes, lies)
		if wanted := plainCuts(c, votes, lies); !slices.Equal(got, wanted) || e != api.OK {
			t.Fatalf("%v cuts at %v, error %d, with %v and %v; want %v", c, got, e, votes, lies, wanted)
		}
		if checkCut(t, c, votes, got) {
			cut++
		} else {
			uncut++
		}
	}
	if cut < 100 || uncut < 100 {
		t.Errorf("%d cut, %d do not", cut, uncut)
	}
}

// checkCut checks that all loyal strings cut in the same frame, and when; it reports whether they do.
func checkCut(t *testing.T, c api.Council, votes [][]int, cuts []int) bool {
	t.Helper()
	first, last := len(votes), -1
	for frame := len(votes) - 1; frame >= 0; frame-- {
		ones, loyal := 0, 0
		for i, vote := range votes[frame] {
			if !slices.Contains(c.Faulty, i) {
				loyal++
				ones += vote
			}
		}
		if ones > 0 {
			first = frame
		}
		if ones == loyal {
			last = frame
		}
	}
	all := -2
	for i, frame := range cuts {
		switch {
		case slices.Contains(c.Faulty, i):
			if frame != -1 {
				t.Fatalf("the faulty %d of %v cuts at %d", i, c, frame)
			}
		case all == -2:
			all = frame
		case frame != all:
			t.Fatalf("%v cuts at %v", c, cuts)
		}
	}
	if all != -1 && all < first || last != -1 && (all == -1 || all > last) {
		t.Fatalf("%v cuts at %d, with %v", c, all, votes)
	}
	return all != -1
}

// TestGreatestCouncil: P0.1; the greatest council, with the most frames and lies.
func TestGreatestCouncil(t *testing.T) {
	r := &sample{8}
	c := council(7, 2, 2, 3)
	votes, lies := r.votes(7, api.MaxFrames), r.lies(c, api.MaxLies, api.MaxFrames, 2)
	for i := range votes[:19] {
		votes[i] = make([]int, 7)
	}
	votes[19] = []int{1, 1, 0, 0, 1, 1, 1}
	wantCuts(t, c, votes, lies, 19, 19, -1, -1, 19, 19, 19)
}
