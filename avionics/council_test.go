package avionics_test

import (
	"slices"
	"testing"

	"ullage/api"
	"ullage/avionics"
)

// TestCouncils: P8.5, P8.6; which councils are valid.
func TestCouncils(t *testing.T) {
	for _, c := range []api.Council{
		council(1, 0), council(7, 0), council(4, 1), council(7, 1), council(7, 2), council(4, 1, 0), council(4, 1, 3), council(7, 2, 0, 6), council(7, 2, 5, 6), council(7, 2, 6), {N: 4, F: 1, Faulty: []int{}},
	} {
		if l, e := avionics.Agree(c, c.N-1, 0, nil); !slices.Equal(l, make([]int, c.N)) || e != api.OK {
			t.Errorf("%v: %v, error %d", c, l, e)
		}
		wantCuts(t, c, nil, nil, slices.Repeat([]int{-1}, c.N)...)
	}
	for _, c := range []api.Council{
		{}, council(0, 0), council(-1, 0), council(8, 0), council(8, 2), council(4, -1), council(7, 3), council(3, 1), council(6, 2), council(1, 1), council(1<<63-1, 0), council(-1<<63, 0), council(7, 1<<63-1), council(7, -1<<63), council(7, 1<<62),
		council(4, 0, 1), council(4, 1, 1, 2), council(7, 2, 1, 2, 3), council(7, 2, 2, 1), council(7, 2, 2, 2), council(4, 1, -1), council(4, 1, 4), council(7, 2, 3, 7), council(7, 2, -1, 3), council(7, 2, 1<<63-1, 3), council(7, 2, 3, -1<<63),
	} {
		lies := make([]api.Lie, api.MaxLies+1)
		if l, e := avionics.Agree(c, 0, 5, lies); len(l) > 0 || e != api.ErrArg {
			t.Errorf("Agree of %v: %v, error %d", c, l, e)
		}
		if l, e := avionics.CutOff(c, make([][]int, api.MaxFrames+1), lies); len(l) > 0 || e != api.ErrArg {
			t.Errorf("CutOff of %v: %v, error %d", c, l, e)
		}
	}
}

// TestAgreeErrors: P8.5, in order.
func TestAgreeErrors(t *testing.T) {
	c := council(4, 1, 0)
	for _, general := range []int{-1, 4, 7, 1<<63 - 1, -1 << 63} {
		for _, n := range []int{0, api.MaxLies + 1} {
			if l, e := avionics.Agree(c, general, 5, make([]api.Lie, n)); len(l) > 0 || e != api.ErrArg {
				t.Error(general, n, l, e)
			}
		}
	}
	if l, e := avionics.Agree(c, 3, 5, make([]api.Lie, api.MaxLies+1)); len(l) > 0 || e != api.ErrLong {
		t.Error(l, e)
	}
	lies := make([]api.Lie, api.MaxLies)
	lies[999] = lie(2, 8, 0)
	wantDecided(t, c, 0, 5, lies, 0, 0, 0, 0)
	lies[998] = lie(1, 8, 0)
	wantDecided(t, c, 0, 5, lies, 0, 8, 8, 8)
}

// TestChapterAgreement: the chapter's example, and a few more that can be reckoned by hand.
func TestChapterAgreement(t *testing.T) {
	c := council(4, 1, 0)
	wantDecided(t, c, 0, 5, []api.Lie{lie(1, 7, 0), lie(2, 7, 0), lie(3, 9, 0)}, 0, 7, 7, 7)
	wantDecided(t, c, 0, 5, []api.Lie{lie(1, 7, 0), lie(2, 8, 0), lie(3, 9, 0)}, 0, 0, 0, 0)
	wantDecided(t, c, 0, 5, []api.Lie{lie(2, 7, 0), lie(3, 7, 0)}, 0, 7, 7, 7)
	wantDecided(t, c, 0, 5, []api.Lie{lie(2, 7, 0)}, 0, 0, 0, 0)
	wantDecided(t, c, 0, 5, nil, 0, 0, 0, 0)
	wantDecided(t, c, 2, 5, []api.Lie{lie(1, 9, 2, 0), lie(3, 9, 2, 0)}, 0, 5, 5, 5)
	wantDecided(t, council(4, 1), 2, 5, nil, 5, 5, 5, 5)
	wantDecided(t, council(1, 0), 0, -7, nil, -7)
	wantDecided(t, council(3, 0), 1, 1<<63-1, nil, 1<<63-1, 1<<63-1, 1<<63-1)
	wantDecided(t, council(5, 1, 4), 4, 3, []api.Lie{lie(0, 1, 4), lie(1, 1, 4), lie(2, 2, 4), lie(3, 2, 4)}, 0, 0, 0, 0, 0)
	wantDecided(t, council(5, 1, 4), 4, 3, []api.Lie{lie(0, 1, 4), lie(1, -1<<63, 4), lie(2, -1<<63, 4), lie(3, -1<<63, 4)}, -1<<63, -1<<63, -1<<63, -1<<63, 0)
}

// TestLies: P8.5; which lies are told: the first one of this frame, whole path and hearer, and only by a faulty one.
func TestLies(t *testing.T) {
	c := council(4, 1, 0)
	both := []api.Lie{lie(2, 7, 0), lie(3, 7, 0)}
	with := func(first ...api.Lie) []api.Lie { return append(first, both...) }
	for what, l := range map[string][]api.Lie{
		"a later lie": append(slices.Clone(both), lie(2, 9, 0), lie(3, 9, 0)), "another frame": with(inFrame(1, lie(2, 9, 0)), inFrame(-1, lie(3, 9, 0))),
		"no path": with(lie(2, 9), lie(3, 9)), "the path twice": with(lie(2, 9, 0, 0), lie(3, 9, 0, 0), lie(3, 9, 0, 0, 0)),
		"a longer path": with(lie(2, 9, 0, 1), lie(3, 9, 0, 2), lie(2, 9, 0, 1, 3), lie(2, 9, 0, 1, 2, 3)), "a loyal one": with(lie(2, 9, 1), lie(3, 9, 1, 0), lie(3, 9, 0, 1), lie(1, 9, 0, 2)),
		"nobody hears": with(lie(-1, 9, 0), lie(4, 9, 0), lie(0, 9, 0), lie(258, 9, 0), lie(1<<32+2, 9, 0)), "nobody tells": with(lie(2, 9, 256), lie(2, 9, -1), lie(2, 9, 1<<63-1), lie(2, 9, 4), lie(2, 9, 1<<32)),
		"a path without end": with(lie(2, 9, make([]int, 5000)...)),
	} {
		l, e := avionics.Agree(c, 0, 5, l)
		if !slices.Equal(l, []int{0, 7, 7, 7}) || e != api.OK {
			t.Errorf("%s: %v, error %d", what, l, e)
		}
	}
	wantDecided(t, c, 0, 5, with(lie(2, 9, 0)), 0, 0, 0, 0)
	wantDecided(t, council(4, 1), 0, 5, both, 5, 5, 5, 5)
}

// TestTwoTraitors: P8.5; lies about lies, by hand.
func TestTwoTraitors(t *testing.T) {
	c := council(7, 2, 0, 1)
	told := []api.Lie{lie(2, 4, 0), lie(3, 4, 0), lie(4, 4, 0), lie(5, 8, 0), lie(6, 8, 0)}
	wantDecided(t, c, 0, 5, told, 0, 0, 0, 0, 0, 0, 0)
	and := func(more ...api.Lie) []api.Lie { return slices.Concat(told, more) }
	wantDecided(t, c, 0, 5, and(lie(2, 8, 0, 1), lie(3, 8, 0, 1)), 0, 0, 0, 0, 0, 0, 0)
	wantDecided(t, c, 0, 5, and(lie(2, 4, 0, 1), lie(3, 4, 0, 1), lie(4, 4, 0, 1)), 0, 0, 4, 4, 4, 4, 4)
	wantDecided(t, c, 1, 5, and(lie(2, 6, 1), lie(3, 6, 1), lie(4, 6, 1), lie(5, 6, 1)), 0, 0, 6, 6, 6, 6, 6)
	wantDecided(t, c, 2, 5, []api.Lie{lie(3, 8, 2, 0), lie(3, 8, 2, 1), lie(3, 8, 2, 4, 0), lie(3, 8, 2, 4, 1), lie(3, 8, 2, 5, 1)}, 0, 0, 5, 5, 5, 5, 5)
}

// TestEachSmallTreason: P8.10; whatever one of four tells, as far as a few values can tell it.
func TestEachSmallTreason(t *testing.T) {
	for general := range 4 {
		for traitor := range 4 {
			c := council(4, 1, traitor)
			for n := range 27 {
				var lies []api.Lie
				for to, rest := 0, n; to < 4; to++ {
					if to == traitor || to == general {
						continue
					}
					p := []int{general, traitor}
					if general == traitor {
						p = p[:1]
					}
					lies = append(lies, lie(to, rest%3, p...))
					rest /= 3
				}
				got, e := avionics.Agree(c, general, 2, lies)
				if !slices.Equal(got, plainAgree(c, 0, general, 2, lies)) || e != api.OK {
					t.Fatalf("%v decides %v, error %d about %d, with %v", c, got, e, general, lies)
				}
				checkAgreement(t, c, general, 2, got)
			}
		}
	}
}

// checkAgreement checks that all loyal members decide the same, and what a loyal general has.
func checkAgreement(t *testing.T, c api.Council, general, value int, decided []int) {
	t.Helper()
	if !slices.Contains(c.Faulty, general) && decided[general] != value {
		t.Fatalf("the loyal general %d of %v decides %d", general, c, decided[general])
	}
	all, known := value, !slices.Contains(c.Faulty, general)
	for i, x := range decided {
		if slices.Contains(c.Faulty, i) {
			if x != 0 {
				t.Fatalf("the faulty %d of %v decides %d", i, c, x)
			}
			continue
		}
		if !known {
			all, known = x, true
		}
		if x != all {
			t.Fatalf("%v decides %v about %d of %d", c, decided, value, general)
		}
	}
}

// plainHeard returns what one hears for a path in a frame.
func plainHeard(c api.Council, frame, value int, lies []api.Lie, p []int, to int) int {
	last := p[len(p)-1]
	if !slices.Contains(c.Faulty, last) {
		if len(p) == 1 {
			return value
		}
		return plainHeard(c, frame, value, lies, p[:len(p)-1], last)
	}
	for _, l := range lies {
		if l.Frame == frame && l.To == to && slices.Equal(l.Path, p) {
			return l.Value
		}
	}
	return 0
}

// plainHeld returns what one holds of a path in a frame.
func plainHeld(c api.Council, frame, value int, lies []api.Lie, p []int, i int) int {
	l := []int{plainHeard(c, frame, value, lies, p, i)}
	if len(p) == c.F+1 {
		return l[0]
	}
	for j := range c.N {
		if j != i && !slices.Contains(p, j) {
			l = append(l, plainHeld(c, frame, value, lies, append(slices.Clone(p), j), i))
		}
	}
	for _, x := range l {
		same := 0
		for _, y := range l {
			if x == y {
				same++
			}
		}
		if same > len(l)-same {
			return x
		}
	}
	return 0
}

// plainAgree returns what all decide in a frame.
func plainAgree(c api.Council, frame, general, value int, lies []api.Lie) []int {
	decided := make([]int, c.N)
	for i := range decided {
		switch {
		case slices.Contains(c.Faulty, i):
		case i == general:
			decided[i] = value
		default:
			decided[i] = plainHeld(c, frame, value, lies, []int{general}, i)
		}
	}
	return decided
}

// plainCuts returns when all cut.
func plainCuts(c api.Council, votes [][]int, lies []api.Lie) []int {
	cuts := slices.Repeat([]int{-1}, c.N)
	for frame := len(votes) - 1; frame >= 0; frame-- {
		ones := make([]int, c.N)
		for general, vote := range votes[frame] {
			for i, x := range plainAgree(c, frame, general, vote, lies) {
				if x == 1 && !slices.Contains(c.Faulty, i) {
					ones[i]++
				}
			}
		}
		for i := range cuts {
			if ones[i] >= c.F+1 {
				cuts[i] = frame
			}
		}
	}
	return cuts
}

// TestAgreesByWord: P8.5, P8.10; decisions against the chapter word by word, and the same for all loyal members.
func TestAgreesByWord(t *testing.T) {
	r := &sample{6}
	lied := 0
	for range 3000 {
		size := [][2]int{{4, 1}, {5, 1}, {6, 1}, {7, 1}, {7, 2}, {7, 2}, {7, 2}, {3, 0}, {7, 0}}[r.below(9)]
		c := r.council(size[0], size[1])
		general, value := r.below(c.N), r.from(-1, 3)
		if len(c.Faulty) > 0 && r.yes(2) {
			general = c.Faulty[0]
		}
		lies := r.lies(c, r.below(150), 2, 3)
		for i := range lies {
			if p := lies[i].Path; !slices.Contains(p, general) && !r.yes(5) {
				lies[i].Path = append([]int{general}, p[max(0, len(p)-c.F):]...)
			}
		}
		got, e := avionics.Agree(c, general, value, lies)
		if wanted := plainAgree(c, 0, general, value, lies); !slices.Equal(got, wanted) || e != api.OK {
			t.Fatalf("%v decides %v, error %d about %d of %d, with %v; want %v", c, got, e, value, general, lies, wanted)
		}
		checkAgreement(t, c, general, value, got)
		if slices.Contains(c.Faulty, general) && slices.ContainsFunc(got, func(x int) bool { return x != 0 }) {
			lied++
		}
	}
	if lied < 100 {
		t.Errorf("%d lies that are agreed about", lied)
	}
}

// TestCouncilMemory: R4; neither councils, nor votes, nor lies are changed.
func TestCouncilMemory(t *testing.T) {
	c, votes := council(4, 1, 0), [][]int{{0, 1, 0, 0}, {0, 1, 1, 0}}
	lies := []api.Lie{inFrame(1, lie(1, 1, 0)), lie(3, 9, 2, 0)}
	avionics.Agree(c, 0, 5, lies)
	avionics.CutOff(c, votes, lies)
	if !slices.Equal(c.Faulty, []int{0}) || !slices.Equal(votes[0], []int{0, 1, 0, 0}) || !slices.Equal(votes[1], []int{0, 1, 1, 0}) {
		t.Error(c, votes)
	}
	if lies[0].Value != 1 || lies[1].Frame != 0 || !slices.Equal(lies[0].Path, []int{0}) || !slices.Equal(lies[1].Path, []int{2, 0}) {
		t.Error(lies)
	}
}
