package steer_test

import (
	"math/bits"
	"slices"
	"testing"

	"ullage/api"
	"ullage/span"
	"ullage/steer"
)

// jets returns jets with some torques.
func jets(l ...[3]int) []api.Jet {
	var out []api.Jet
	for _, t := range l {
		out = append(out, api.Jet{Torque: t})
	}
	return out
}

// six are jets along the axes, both ways.
func six(n int) []api.Jet {
	return jets([3]int{n, 0, 0}, [3]int{-n, 0, 0}, [3]int{0, n, 0}, [3]int{0, -n, 0}, [3]int{0, 0, n}, [3]int{0, 0, -n})
}

// mixed is what Mix returns.
type mixed struct {
	on   int
	rest [3]int
}

// mix returns what Mix returns.
func mix(l []api.Jet, failed int, wanted [3]int) (mixed, api.Errno) {
	on, rest, e := steer.Mix(l, failed, wanted)
	return mixed{on, rest}, e
}

// TestMix: P5.7, by numbers.
func TestMix(t *testing.T) {
	const most, far = api.MaxTorque, 1 << 24
	three := jets([3]int{3, 0, 0}, [3]int{2, 0, 0}, [3]int{1, 0, 0})
	for _, c := range []struct {
		l      []api.Jet
		failed int
		wanted [3]int
		want   mixed
	}{
		{three, 0, [3]int{4, 0, 0}, mixed{5, [3]int{}}},
		{three, 1, [3]int{4, 0, 0}, mixed{6, [3]int{1, 0, 0}}},
		{three, 0, [3]int{3, 0, 0}, mixed{1, [3]int{}}},
		{three, 0, [3]int{6, 0, 0}, mixed{7, [3]int{}}},
		{three, 7, [3]int{6, -1, 2}, mixed{0, [3]int{6, -1, 2}}},
		{three, 0, [3]int{-1, 0, 0}, mixed{0, [3]int{-1, 0, 0}}},
		{three, 2, [3]int{2, 0, 0}, mixed{1, [3]int{-1, 0, 0}}}, // jet 2 alone leaves as much, but its mask is greater
		{nil, 0, [3]int{far, -far, far}, mixed{0, [3]int{far, -far, far}}},
		{[]api.Jet{}, 0, [3]int{}, mixed{}},
		{jets([3]int{}, [3]int{}), 0, [3]int{}, mixed{}},
		{jets([3]int{1, 0, 0}, [3]int{1, 0, 0}, [3]int{1, 0, 0}), 0, [3]int{2, 0, 0}, mixed{3, [3]int{}}},
		{jets([3]int{1, 0, 0}, [3]int{1, 0, 0}, [3]int{1, 0, 0}), 1, [3]int{2, 0, 0}, mixed{6, [3]int{}}},
		{jets([3]int{1, 1, 0}, [3]int{1, 0, 0}, [3]int{0, 1, 0}), 0, [3]int{1, 1, 0}, mixed{1, [3]int{}}},
		{jets([3]int{1, 0, 0}, [3]int{0, 1, 0}, [3]int{1, 1, 0}), 0, [3]int{1, 1, 0}, mixed{4, [3]int{}}}, // fewer jets come before a less mask
		{jets([3]int{2, 0, 0}), 0, [3]int{1, 0, 0}, mixed{0, [3]int{1, 0, 0}}},
		// The sum of squares, not of sizes.
		{jets([3]int{-2, 3, 3}), 0, [3]int{0, 3, 4}, mixed{1, [3]int{2, 0, 1}}},
		{jets([3]int{5, 3, 4}), 0, [3]int{0, 3, 4}, mixed{0, [3]int{0, 3, 4}}},
		{slices.Repeat(jets([3]int{most, -most, most}), api.MaxJets), 0, [3]int{far, -far, far}, mixed{1<<12 - 1, [3]int{far - 12*most, 12*most - far, far - 12*most}}},
		{slices.Repeat(jets([3]int{most, -most, most}), api.MaxJets), 0, [3]int{-far, far, -far}, mixed{0, [3]int{-far, far, -far}}},
	} {
		got, e := mix(c.l, c.failed, c.wanted)
		want(t, "Mix", got, e, c.want, api.OK)
	}
}

// TestMixErrors: P5.7, R1, R2: of Mix, Spans and Safe.
func TestMixErrors(t *testing.T) {
	const far = 1 << 24
	check := func(what string, l []api.Jet, failed int, wanted [3]int, wantedE api.Errno) {
		t.Helper()
		m, e := mix(l, failed, wanted)
		want(t, "Mix, "+what, m, e, mixed{}, wantedE)
		is, e := steer.Spans(l, failed)
		want(t, "Spans, "+what, is, e, false, wantedE)
	}
	for _, n := range []int{api.MaxTorque + 1, -api.MaxTorque - 1, 1 << 40, -1 << 63, 1<<63 - 1} {
		for i := range 3 {
			l := append(six(1), six(1)...)
			l[11].Torque[i] = n
			check("a wrong torque", l, 0, [3]int{}, api.ErrArg)
			check("a wrong torque that has failed", l, 1<<11, [3]int{}, api.ErrArg)
			is, e := steer.Safe(l)
			want(t, "Safe, a wrong torque", is, e, false, api.ErrArg)
			l = append(l, api.Jet{})
			check("a wrong torque of too many", l, -1, [3]int{n}, api.ErrLong)
			is, e = steer.Safe(l)
			want(t, "Safe, a wrong torque of too many", is, e, false, api.ErrLong)
		}
	}
	for _, failed := range []int{1 << 6, 1<<6 + 1, 1 << 12, -1, -64, -1 << 63, 1<<63 - 1} {
		check("a wrong mask", six(1), failed, [3]int{}, api.ErrArg)
	}
	check("a mask of no jets", nil, 1, [3]int{}, api.ErrArg)
	check("a negative mask of no jets", nil, -1, [3]int{}, api.ErrArg)
	for _, n := range []int{far + 1, -far - 1, 1 << 40, -1 << 63, 1<<63 - 1} {
		for i := range 3 {
			var wanted [3]int
			wanted[i] = n
			m, e := mix(six(1), 0, wanted)
			want(t, "Mix, too much", m, e, mixed{}, api.ErrArg)
			m, e = mix(nil, 0, wanted)
			want(t, "Mix, too much without jets", m, e, mixed{}, api.ErrArg)
		}
	}
	is, e := steer.Spans(append(six(api.MaxTorque), six(api.MaxTorque)...), 0)
	want(t, "Spans of the greatest torques", is, e, true, api.OK)
}

// jets returns so many jets with torques up to a size.
func (s *sample) jets(count, size int) []api.Jet {
	var l []api.Jet
	for range count {
		var j api.Jet
		for i := range 3 {
			j.Torque[i] = s.below(2*size+1) - size
		}
		l = append(l, j)
	}
	return l
}

// bestOf is the best of all masks, one by one.
func bestOf(l []api.Jet, failed int, wanted [3]int) mixed {
	best, size := mixed{rest: wanted}, squares(wanted)
	for on := range 1 << len(l) {
		if on&failed != 0 {
			continue
		}
		rest := wanted
		for i, j := range l {
			for k, n := range j.Torque {
				rest[k] -= n * (on >> i & 1)
			}
		}
		n := squares(rest)
		if n < size || n == size && bits.OnesCount(uint(on)) < bits.OnesCount(uint(best.on)) {
			best, size = mixed{on, rest}, n
		}
	}
	return best
}

// squares returns the sum of the squares of three numbers.
func squares(t [3]int) int { return t[0]*t[0] + t[1]*t[1] + t[2]*t[2] }

// TestMixOneByOne: P5.7; P5.10, P0.4, of failures.
func TestMixOneByOne(t *testing.T) {
	s := sample{14}
	for range 1500 {
		size := []int{1, 2, 5, 1000, api.MaxTorque}[s.below(5)]
		l := s.jets(s.below(9), size)
		failed := s.below(1<<len(l)) & s.below(1<<len(l))
		wanted := s.jets(1, 2*size)[0].Torque
		before := slices.Clone(l)
		got, e := mix(l, failed, wanted)
		want(t, "Mix", got, e, bestOf(l, failed, wanted), api.OK)
		if got.on&failed != 0 {
			t.Errorf("%b is on, but %b have failed", got.on, failed)
		}
		whole, e := mix(l, 0, wanted)
		if e != api.OK || squares(whole.rest) > squares(got.rest) {
			t.Errorf("after the failures %b %v is left over, before them %v", failed, got.rest, whole.rest)
		}
		if !slices.Equal(l, before) {
			t.Fatal("Mix changes the jets")
		}
	}
	l := s.jets(api.MaxJets, 9)
	got, e := mix(l, 0, [3]int{5, -3, 20})
	want(t, "Mix of as many jets as there may be", got, e, bestOf(l, 0, [3]int{5, -3, 20}), api.OK)
}

// TestSpans: P5.7, by numbers.
func TestSpans(t *testing.T) {
	const most = api.MaxTorque
	corners := jets([3]int{most, most, most}, [3]int{most, -most, -most}, [3]int{-most, most, -most}, [3]int{-most, -most, most})
	flat := jets([3]int{1, 0, 0}, [3]int{-1, 1, 0}, [3]int{-1, -1, 0})
	for _, c := range []struct {
		l      []api.Jet
		failed int
		want   bool
	}{
		{nil, 0, false},
		{[]api.Jet{}, 0, false},
		{jets([3]int{}, [3]int{}, [3]int{}, [3]int{}), 0, false},
		{six(1), 0, true},
		{six(most), 0, true},
		{six(1), 1, false},
		{six(1), 1 << 5, false},
		{six(1), 1<<6 - 1, false},
		{append(six(1), six(2)...), 1<<6 - 1, true},
		{append(six(1), six(2)...), 1 << 11, true},
		{append(six(1), six(2)...), 1<<11 | 1<<5, false},
		{corners, 0, true},
		{corners, 4, false},
		{corners[:3], 0, false},
		{flat, 0, false},
		{append(flat, jets([3]int{5, 5, 1})...), 0, false},
		{append(flat, jets([3]int{5, 5, 1}, [3]int{-7, 3, -1})...), 0, true},
		{jets([3]int{1, 2, 3}, [3]int{-1, -2, -3}, [3]int{2, 4, 6}), 0, false},
		// The directions with x, y and z below 0 are free, and their edges.
		{jets([3]int{1, 0, 0}, [3]int{0, 1, 0}, [3]int{0, 0, 1}), 0, false},
		{jets([3]int{1, 0, 0}, [3]int{0, 1, 0}, [3]int{0, 0, 1}, [3]int{-1, -1, -1}), 0, true},
		{jets([3]int{1, 0, 0}, [3]int{0, 1, 0}, [3]int{0, 0, 1}, [3]int{-1, -1, 0}), 0, false},
		{jets([3]int{most, 0, 0}, [3]int{0, most, 0}, [3]int{0, 0, most}, [3]int{-1, -1, -1}), 0, true},
		// By a hair: the last torque is just above, in, and just below a plane of two others.
		{jets([3]int{most, most - 1, 1}, [3]int{-most, 1 - most, 1}, [3]int{1, -1, -1}, [3]int{-1, 1, 0}), 0, true},
		{jets([3]int{most, most - 1, 0}, [3]int{-most, 1 - most, 0}, [3]int{1, -1, -1}, [3]int{-1, 1, 0}), 0, false},
	} {
		is, e := steer.Spans(c.l, c.failed)
		want(t, "Spans", is, e, c.want, api.OK)
	}
}

// areSpanning reports whether small torques, up to 2 in size, span the space. If they do not, all are on one side of a plane that has two of them, or one and an axis, or none; its normal has no number above 8.
func areSpanning(l []api.Jet) bool {
	const most = 8
	for x := -most; x <= most; x++ {
		for y := -most; y <= most; y++ {
			for z := -most; z <= most; z++ {
				if x == 0 && y == 0 && z == 0 {
					continue
				}
				if !slices.ContainsFunc(l, func(j api.Jet) bool { return j.Torque[0]*x+j.Torque[1]*y+j.Torque[2]*z > 0 }) {
					return false
				}
			}
		}
	}
	return true
}

// TestSpansByDirections: P5.7; P5.10.
func TestSpansByDirections(t *testing.T) {
	s := sample{15}
	count := [2]int{}
	for range 800 {
		l := s.jets(s.below(10), 1+s.below(2))
		failed := 0
		var rest []api.Jet
		for i, j := range l {
			if s.below(8) == 0 {
				failed |= 1 << i
			} else {
				rest = append(rest, j)
			}
		}
		before, wanted := slices.Clone(l), areSpanning(rest)
		is, e := steer.Spans(l, failed)
		want(t, "Spans", is, e, wanted, api.OK)
		more, e := steer.Spans(append(l, s.jets(1, 2)...), failed)
		if e != api.OK || is && !more {
			t.Errorf("%v span the space, but not with one more", rest)
		}
		if !slices.Equal(l, before) {
			t.Fatal("Spans changes the jets")
		}
		if is {
			count[1]++
		} else {
			count[0]++
		}
	}
	if min(count[0], count[1]) < 100 {
		t.Errorf("%v do not, and do, span the space", count)
	}
}

// TestSafe: P5.7.
func TestSafe(t *testing.T) {
	for _, c := range []struct {
		l    []api.Jet
		want bool
	}{
		{nil, false},
		{[]api.Jet{}, false},
		{jets([3]int{1, 1, 1}), false},
		{six(1), false},
		{append(six(1), six(1)...), true},
		{append(six(1), six(3)[:5]...), false},
		{append(six(1), jets([3]int{1, 1, 1}, [3]int{1, -1, -1}, [3]int{-1, 1, -1}, [3]int{-1, -1, 1})...), true},
	} {
		before := slices.Clone(c.l)
		is, e := steer.Safe(c.l)
		want(t, "Safe", is, e, c.want, api.OK)
		if !slices.Equal(c.l, before) {
			t.Error("Safe changes the jets")
		}
	}
	s := sample{16}
	count := 0
	for range 400 {
		l := s.jets(6+s.below(7), 2)
		wanted := true
		for i := range l {
			wanted = wanted && areSpanning(slices.Delete(slices.Clone(l), i, i+1))
		}
		is, e := steer.Safe(l)
		want(t, "Safe", is, e, wanted, api.OK)
		if is {
			count++
		}
	}
	if count < 50 || count > 350 {
		t.Errorf("%d are safe", count)
	}
}

// swivelByBook is the angle of gimbals, line by line as the chapter has it.
func swivelByBook(thrust []api.Span, failed int, arm api.Span, limit, wanted api.Num) (two, api.Errno) {
	var left []api.Span
	for i, a := range thrust {
		if failed>>i&1 == 0 {
			left = append(left, a)
		}
	}
	sum, e := span.Sum(left)
	if e != api.OK {
		return two{}, e
	}
	if span.In(sum, 0) {
		return two{}, api.ErrZero
	}
	var b book
	most, least := point(limit), point(-limit)
	angle := b.note(span.Least(most, b.div(b.div(point(wanted), sum), arm)))
	angle = b.note(span.Most(least, angle))
	return b.two(angle, b.sub(point(wanted), b.mul(b.mul(sum, arm), angle)))
}

// TestSwivel: P5.8, by numbers.
func TestSwivel(t *testing.T) {
	const one, most = api.One, api.MostNum
	quarter, half, unit, zero := point(one/4), point(one/2), whole(1), whole(0)
	for _, c := range []struct {
		thrust        []api.Span
		failed        int
		arm           api.Span
		limit, wanted api.Num
		want          two
		e             api.Errno
	}{
		{points(2, 2), 0, unit, one / 4, one, two{quarter, zero}, api.OK},
		{points(2, 2), 1, unit, one / 4, one, two{quarter, half}, api.OK},
		{points(2, 2), 2, unit, one / 4, -one, two{point(-one / 4), point(-one / 2)}, api.OK},
		{points(2, 2), 0, whole(2), one, one, two{point(one / 8), zero}, api.OK},
		{points(2, 2), 0, unit, 0, one, two{zero, unit}, api.OK},
		{points(2, 2), 0, unit, one, 0, two{zero, zero}, api.OK},
		{[]api.Span{ints(1, 2), ints(1, 2)}, 0, unit, one, one, two{api.Span{Lo: one / 4, Hi: one / 2}, api.Span{Lo: -one, Hi: one / 2}}, api.OK},
		{[]api.Span{ints(0, 2), ints(1, 2)}, 0, ints(1, 2), most, one, two{api.Span{Lo: one / 8, Hi: one}, api.Span{Lo: -7 * one, Hi: one * 7 / 8}}, api.OK},
		{points(2, 2), 3, unit, one, one, two{}, api.ErrZero},
		{nil, 0, unit, one, one, two{}, api.ErrZero},
		{[]api.Span{}, 0, unit, one, one, two{}, api.ErrZero},
		{[]api.Span{ints(0, 2), ints(0, 2)}, 0, unit, one, one, two{}, api.ErrZero},
		{[]api.Span{ints(1, 2), ints(0, 2)}, 1, unit, one, one, two{}, api.ErrZero},
		{[]api.Span{point(most), unit}, 0, unit, one, one, two{}, api.ErrRange},
		{[]api.Span{{Hi: most}, {Hi: most}}, 0, unit, one, one, two{}, api.ErrRange}, // the sum, before it contains 0
		{[]api.Span{point(most), unit}, 1, unit, one, one, two{unit, zero}, api.OK},
		{points(1), 0, point(1), one, one << 8, two{}, api.ErrRange},
		{[]api.Span{point(1)}, 0, unit, one, one, two{}, api.ErrRange},
		{points(1 << 20), 0, whole(1 << 20), one, one, two{}, api.ErrRange}, // the sum times the arm
		// A quotient that is too great is an error, also if the limit is less.
		{[]api.Span{{Lo: 1, Hi: one}}, 0, whole(1 << 30), one, one / 2, two{}, api.ErrRange},
		{[]api.Span{{Lo: 1, Hi: one}}, 0, whole(1 << 30), one, one / 4, two{api.Span{Lo: 1, Hi: one}, api.Span{Lo: one/4 - one<<30, Hi: one / 4}}, api.OK},
	} {
		angle, short, e := steer.Swivel(c.thrust, c.failed, c.arm, c.limit, c.wanted)
		wantTwo(t, "Swivel", angle, short, e, c.want, c.e)
	}
}

// TestSwivelErrors: P5.8, R1, R2.
func TestSwivelErrors(t *testing.T) {
	const one = api.One
	check := func(what string, thrust []api.Span, failed int, arm api.Span, limit, wanted api.Num) {
		t.Helper()
		angle, short, e := steer.Swivel(thrust, failed, arm, limit, wanted)
		wantTwo(t, what, angle, short, e, two{}, api.ErrArg)
		long := slices.Clone(thrust)
		for len(long) <= api.MaxJets {
			long = append(long, whole(1))
		}
		angle, short, e = steer.Swivel(long, failed, arm, limit, wanted)
		wantTwo(t, what+", and too many engines", angle, short, e, two{}, api.ErrLong)
	}
	good, unit, huge := points(2, 2), whole(1), []api.Span{point(api.MostNum), point(api.MostNum)}
	for _, l := range [][]api.Span{good, huge, nil, points(0)} {
		for _, w := range wrongSpans() {
			check("a wrong thrust", append(slices.Clone(l), w), 0, unit, one, one)
			check("a wrong thrust that has failed", append(slices.Clone(l), w), 1<<len(l), unit, one, one)
			check("a wrong arm", l, 0, w, one, one)
		}
		for _, w := range []api.Span{{Lo: -1}, {Lo: -1, Hi: 1}, whole(-1)} {
			check("a negative thrust", append(slices.Clone(l), w), 0, unit, one, one)
			check("a negative thrust that has failed", append(slices.Clone(l), w), 1<<len(l), unit, one, one)
			check("a negative arm", l, 0, w, one, one)
		}
		check("an arm of 0", l, 0, api.Span{Hi: 1}, one, one)
		for _, n := range []api.Num{-1, -api.MostNum, noNumber} {
			check("a wrong limit", l, 0, unit, n, one)
		}
		check("no number is wanted", l, 0, unit, one, noNumber)
		for _, failed := range []int{1 << len(l), -1, -1 << 63, 1<<63 - 1} {
			check("a wrong mask", l, failed, unit, one, one)
		}
	}
	angle, short, e := steer.Swivel(slices.Repeat(points(1), api.MaxJets), 1<<api.MaxJets-2, unit, one, one)
	wantTwo(t, "as many engines as there may be", angle, short, e, two{unit, whole(0)}, api.OK)
}

// TestSwivelByBook: P5.8; P5.10, P0.4.
func TestSwivelByBook(t *testing.T) {
	s := sample{17}
	count := map[api.Errno]int{}
	for range 6000 {
		size := api.MostNum >> s.below(36)
		thrust := make([]api.Span, s.below(api.MaxJets+1))
		for i := range thrust {
			thrust[i] = s.positive(size)
		}
		failed := s.below(1<<len(thrust)) & s.below(1<<len(thrust))
		arm := s.positive(16 * api.One)
		arm.Lo, arm.Hi = arm.Lo+1, arm.Hi+1
		limit, wanted := s.in(api.Span{Hi: api.MostNum >> s.below(36)}), s.num(api.MostNum>>s.below(36))
		before := slices.Clone(thrust)
		result, resultE := swivelByBook(thrust, failed, arm, limit, wanted)
		angle, short, e := steer.Swivel(thrust, failed, arm, limit, wanted)
		wantTwo(t, "Swivel", angle, short, e, result, resultE)
		if !slices.Equal(thrust, before) {
			t.Fatal("Swivel changes the thrusts")
		}
		count[e]++
		if e != api.OK {
			continue
		}
		if angle.Hi > limit || angle.Lo < -limit {
			t.Errorf("the angle %v is beyond the limit %d", angle, limit)
		}
		whole, _, e := steer.Swivel(thrust, 0, arm, limit, wanted)
		if e == api.OK && wanted >= 0 && angle.Hi < whole.Hi {
			t.Errorf("after failures the angle is %v, before them %v", angle, whole)
		}
	}
	if count[api.OK] < 1000 || count[api.ErrRange] < 500 || count[api.ErrZero] < 200 {
		t.Errorf("the counts are %v", count)
	}
}
