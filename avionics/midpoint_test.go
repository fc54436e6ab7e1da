package avionics_test

import (
	"slices"
	"testing"

	"ullage/api"
	"ullage/avionics"
)

// TestMidpoints: P8.7; also the chapter's example.
func TestMidpoints(t *testing.T) {
	for _, c := range []struct {
		l         []int
		f, wanted int
	}{
		{[]int{5, 1, 9, 2}, 1, 3}, {[]int{5, 1, 9, 2}, 0, 5}, {[]int{7}, 0, 7}, {[]int{-7}, 0, -7}, {[]int{-5, -2, 0}, 1, -2}, {[]int{-5, 0}, 0, -3}, {[]int{-1, 0}, 0, -1}, {[]int{0, 1}, 0, 0},
		{[]int{-3, -4}, 0, -4}, {[]int{3, 4}, 0, 3}, {[]int{most, most}, 0, most}, {[]int{-most, -most, -most}, 1, -most}, {[]int{most, -most}, 0, 0}, {[]int{most, most - 1}, 0, most - 1}, {[]int{-most, 1 - most}, 0, -most},
		{[]int{10, 20, 30, 40, 50, 60, 77}, 2, 40}, {[]int{77, 60, 50, 40, 30, 21, 10}, 1, 40}, {[]int{3, 3, 3, 3, 9}, 2, 3}, {[]int{9, 1, 8, 2, 7, 3}, 2, 5},
	} {
		if n, e := avionics.Midpoint(c.l, c.f); n != c.wanted || e != api.OK {
			t.Errorf("midpoint of %v for %d: %d, error %d; want %d", c.l, c.f, n, e, c.wanted)
		}
	}
}

// TestMidpointErrors: P8.7.
func TestMidpointErrors(t *testing.T) {
	for what, c := range map[string]struct {
		l []int
		f int
	}{
		"nothing": {nil, 0}, "empty": {[]int{}, 0}, "too few": {[]int{1, 2}, 1}, "too few for 2": {[]int{1, 2, 3, 4}, 2}, "f -1": {[]int{1, 2, 3}, -1}, "the least f": {[]int{1, 2, 3}, -1 << 63}, "2^30": {make([]int, 100), most},
		"f above": {make([]int, 100), most + 1}, "the greatest f": {make([]int, 100), 1<<63 - 1}, "f of 2^62": {make([]int, 100), 1 << 62}, "f of 2^63": {make([]int, 3), 1<<63 - 1},
		"101": {make([]int, 101), 1}, "101 for 50": {make([]int, 101), 50}, "100 for 50": {make([]int, 100), 50}, "above": {[]int{1, most + 1, 2}, 1}, "below": {[]int{-most - 1, 1, 2}, 1}, "least": {[]int{1, 2, -1 << 63}, 1}, "greatest": {[]int{1<<63 - 1}, 0},
	} {
		if n, e := avionics.Midpoint(c.l, c.f); n != 0 || e != api.ErrRange {
			t.Errorf("%s: %d, error %d", what, n, e)
		}
	}
	for _, f := range []int{0, 1, 49} {
		if n, e := avionics.Midpoint(make([]int, 100), f); n != 0 || e != api.OK {
			t.Error(f, n, e)
		}
	}
}

// TestMidpointMemory: R4; the readings keep their order.
func TestMidpointMemory(t *testing.T) {
	l := []int{9, 1, 8, 2}
	avionics.Midpoint(l, 1)
	if !slices.Equal(l, []int{9, 1, 8, 2}) {
		t.Error(l)
	}
}

// TestMidpointsByWord: P8.7; against places in the list that are found by counting.
func TestMidpointsByWord(t *testing.T) {
	r := &sample{9}
	for range 5000 {
		f, size := r.below(5), []int{3, 40, most}[r.below(3)]
		l := make([]int, r.from(2*f+1, 2*f+9))
		for i := range l {
			l[i] = r.from(-size, size)
		}
		sum := least(l, f) + least(l, len(l)-1-f)
		n, e := avionics.Midpoint(l, f)
		if e != api.OK || 2*n > sum || 2*n < sum-1 {
			t.Fatalf("midpoint of %v for %d: %d, error %d; not half of %d", l, f, n, e, sum)
		}
	}
}

// TestClocksComeNear: P8.12; two clocks of which at most f readings differ.
func TestClocksComeNear(t *testing.T) {
	r := &sample{10}
	apart := 0
	for range 20000 {
		f, size := r.below(4), []int{2, 30, most / 2}[r.below(3)]
		n := 3*f + 1 + r.below(4)
		one := make([]int, n)
		for i := range one {
			one[i] = r.from(-size, size)
		}
		two := slices.Clone(one)
		low, high := slices.Min(one[f:]), slices.Max(one[f:])
		for i := range f {
			one[i], two[i] = r.from(-2*size, 2*size), r.from(-2*size, 2*size)
		}
		a, e := avionics.Midpoint(one, f)
		b, e2 := avionics.Midpoint(two, f)
		if d := max(a-b, b-a); e != api.OK || e2 != api.OK || 2*(d-1) > high-low {
			t.Fatalf("%d and %d of %v and %v, errors %d and %d", a, b, one, two, e, e2)
		}
		if a != b {
			apart++
		}
	}
	if apart < 5000 {
		t.Errorf("%d clocks differ", apart)
	}
}

// TestWild: P0.1; nothing panics, whatever the arguments are.
func TestWild(t *testing.T) {
	r := &sample{11}
	for range 3000 {
		v, _ := avionics.NewVoter(r.wild(), r.wild(), r.wild())
		for range 3 {
			v.Vote([]api.Reading{{Value: r.wild(), There: r.yes(2)}})
		}
		v.Live()
		v.Counts()
		l := []api.Message{{Name: "a", Size: r.wild(), Period: r.wild(), Deadline: r.wild()}, {Name: "b", Size: 1, Period: r.from(1, 30), Deadline: 1}}
		avionics.Cycle(l)
		avionics.Schedule(l)
		avionics.Serves(l, []int{r.wild(), r.wild()})
		c := api.Council{N: r.wild(), F: r.wild(), Faulty: []int{r.wild(), r.wild()}[:r.below(3)]}
		if r.yes(2) {
			c = r.council(7, 2)
		}
		var p []int
		for range r.below(5) {
			p = append(p, r.wild())
		}
		lies := []api.Lie{{Frame: r.wild(), Path: p, To: r.wild(), Value: r.wild()}}
		avionics.Agree(c, r.wild(), r.wild(), lies)
		avionics.CutOff(c, [][]int{{r.wild()}, {r.wild(), 0, 0, 0, 0, 0, 0}}[:r.below(3)], lies)
		avionics.CutOff(c, [][]int{{r.below(2), 1, 0, 0, 0, 0, 0}}, lies)
		avionics.Midpoint([]int{r.wild(), r.wild(), r.wild()}, r.wild())
	}
}
