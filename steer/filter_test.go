package steer_test

import (
	"math"
	"math/big"
	"slices"
	"testing"

	"ullage/api"
	"ullage/span"
	"ullage/steer"
)

// factor returns one of the five factors of a section.
func factor(s *api.Section, i int) *api.Num {
	return []*api.Num{&s.B0, &s.B1, &s.B2, &s.A1, &s.A2}[i]
}

// looseFactor returns one of the five factors of a loose section.
func looseFactor(s *api.Loose, i int) *api.Span {
	return []*api.Span{&s.B0, &s.B1, &s.B2, &s.A1, &s.A2}[i]
}

// wrongFilters are filters that are not long, and not valid: each has one fault.
func wrongFilters() [][]api.Section {
	var out [][]api.Section
	for _, n := range []api.Num{api.MaxFactor + 1, -api.MaxFactor - 1, api.MostNum, -api.MostNum, noNumber} {
		for i := range 5 {
			for _, at := range []int{0, api.MaxSections - 1} {
				l := make([]api.Section, api.MaxSections)
				*factor(&l[at], i) = n
				out = append(out, l)
			}
		}
	}
	return out
}

// TestCheckFilter: P5.1.
func TestCheckFilter(t *testing.T) {
	const most = api.MaxFactor
	for _, l := range [][]api.Section{nil, {}, {{}}, {{B0: most, B1: most, B2: most, A1: most, A2: most}}, {{B0: -most, B1: -most, B2: -most, A1: -most, A2: -most}}, make([]api.Section, api.MaxSections)} {
		if e := steer.CheckFilter(l); e != api.OK {
			t.Errorf("the valid filter %v has the error %d", l, e)
		}
	}
	for _, l := range wrongFilters() {
		if e := steer.CheckFilter(l); e != api.ErrArg {
			t.Errorf("the wrong filter %v has the error %d", l, e)
		}
		if e := steer.CheckFilter(append(l, api.Section{})); e != api.ErrLong {
			t.Errorf("the wrong filter %v, which is also too long, has the error %d", l, e)
		}
	}
	if e := steer.CheckFilter(make([]api.Section, api.MaxSections+1)); e != api.ErrLong {
		t.Errorf("a filter that is too long has the error %d", e)
	}
}

// TestRun: P5.1, by numbers.
func TestRun(t *testing.T) {
	const one, most = api.One, api.MostNum
	impulse := []api.Num{one, 0, 0, 0, 0}
	for _, c := range []struct {
		l       []api.Section
		x, want []api.Num
	}{
		{nil, nil, nil},
		{nil, []api.Num{3, -most, most}, []api.Num{3, -most, most}},
		{[]api.Section{}, []api.Num{1}, []api.Num{1}},
		{[]api.Section{{B0: one}}, nil, nil},
		{[]api.Section{{B0: one}}, []api.Num{}, nil},
		{[]api.Section{{}}, []api.Num{most, -most}, []api.Num{0, 0}},
		{[]api.Section{{B0: one / 2, A1: -one / 2}}, []api.Num{one, one, one}, []api.Num{one / 2, one * 3 / 4, one * 7 / 8}},
		{[]api.Section{{B0: one / 2}}, []api.Num{1, -1, 3, -3}, []api.Num{0, -1, 1, -2}},
		{[]api.Section{{B0: one, B1: 2 * one, B2: 3 * one}}, impulse, []api.Num{one, 2 * one, 3 * one, 0, 0}},
		{[]api.Section{{B0: one, A1: one}}, impulse, []api.Num{one, -one, one, -one, one}},
		{[]api.Section{{B0: one, A2: one}}, impulse, []api.Num{one, 0, -one, 0, one}},
		{[]api.Section{{B0: one, A1: -one, A2: -one}}, impulse, []api.Num{one, one, 2 * one, 3 * one, 5 * one}},
		{[]api.Section{{B1: one}, {B2: 2 * one}}, []api.Num{1, 2, 3, 4, 5}, []api.Num{0, 0, 0, 2, 4}},
		{slices.Repeat([]api.Section{{B1: one}}, api.MaxSections), slices.Repeat([]api.Num{1}, 10), []api.Num{0, 0, 0, 0, 0, 0, 0, 0, 1, 1}},
		// Each section rounds, in itself once.
		{[]api.Section{{B0: one / 2}, {B0: 2 * one}}, []api.Num{1, -1, 3}, []api.Num{0, -2, 2}},
		{[]api.Section{{B0: one / 2, B1: one / 2}}, []api.Num{1, 1, 1}, []api.Num{0, 1, 1}},
		{[]api.Section{{B0: one / 2, A1: one / 2}}, []api.Num{3, -3}, []api.Num{1, -2}},
		// Terms may leave the range if the sum does not.
		{[]api.Section{{B0: 4 * one, B1: -4 * one, B2: one}}, []api.Num{1 << 60, 1 << 60, 1 << 61}, []api.Num{1 << 62, 0, 1<<62 + 1<<60}},
	} {
		got, e := steer.Run(c.l, c.x)
		wantList(t, "Run", got, e, c.want, api.OK)
	}
}

// TestRunToTheEnd: P5.1, where a section makes the greatest and the least number, and the next ones, which are none.
func TestRunToTheEnd(t *testing.T) {
	const most = api.MostNum
	for _, c := range []struct {
		s       api.Section
		x, want []api.Num
		e       api.Errno
	}{
		{api.Section{B0: api.One}, []api.Num{most, -most}, []api.Num{most, -most}, api.OK},
		{api.Section{B0: -api.One}, []api.Num{most, -most}, []api.Num{-most, most}, api.OK},
		{api.Section{B0: api.One, B1: api.One}, []api.Num{most, 1}, nil, api.ErrRange},
		{api.Section{B0: api.One, B1: api.One}, []api.Num{-most, -1}, nil, api.ErrRange}, // the least int64
		{api.Section{B0: api.One, B1: api.One}, []api.Num{-most, -2}, nil, api.ErrRange},
		{api.Section{B0: api.One, B1: api.One}, []api.Num{1 << 62, 1 << 62}, nil, api.ErrRange},
		{api.Section{B0: api.One, B1: api.One}, []api.Num{1 << 62, 1<<62 - 1}, []api.Num{1 << 62, most}, api.OK},
		// Half of a unit above the greatest number is rounded down to it, half of one below the least number is not.
		{api.Section{B0: api.One, B1: api.One / 2}, []api.Num{1, most}, []api.Num{1, most}, api.OK},
		{api.Section{B0: api.One, B1: api.One / 2}, []api.Num{-1, -most}, nil, api.ErrRange},
		{api.Section{B0: 2 * api.One}, []api.Num{most}, nil, api.ErrRange},
		{api.Section{B0: 2 * api.One}, []api.Num{-most}, nil, api.ErrRange},
		{api.Section{B0: 2 * api.One}, []api.Num{1 << 62}, nil, api.ErrRange},
		{api.Section{B0: api.MaxFactor}, []api.Num{most}, nil, api.ErrRange},
		{api.Section{B0: api.MaxFactor, B1: api.MaxFactor, B2: api.MaxFactor, A1: -api.MaxFactor, A2: -api.MaxFactor}, []api.Num{1 << 58, 1 << 58, 1 << 58, most, most, most}, nil, api.ErrRange},
	} {
		got, e := steer.Run([]api.Section{c.s}, c.x)
		wantList(t, "Run to the end", got, e, c.want, c.e)
		// Also if the next section would make it small again.
		got, e = steer.Run([]api.Section{c.s, {}}, c.x)
		wantList(t, "Run to the end, and to 0", got, e, make([]api.Num, len(c.want)), c.e)
	}
}

// TestRunErrors: P5.1, R1, R2.
func TestRunErrors(t *testing.T) {
	long := make([]api.Num, api.MaxSamples+1)
	wrong := []api.Num{0, noNumber}
	tooMuch := []api.Num{api.MostNum}
	double := []api.Section{{B0: 2 * api.One}}
	tooLong := make([]api.Section, api.MaxSections+1)
	for _, c := range []struct {
		l []api.Section
		x []api.Num
		e api.Errno
	}{
		{tooLong, nil, api.ErrLong},
		{tooLong, wrong, api.ErrLong},
		{wrongFilters()[0], nil, api.ErrArg},
		{wrongFilters()[0], long, api.ErrArg},
		{double, long, api.ErrLong},
		{double, append(long, noNumber), api.ErrLong},
		{nil, long, api.ErrLong},
		{double, wrong, api.ErrArg},
		{nil, wrong, api.ErrArg},
		{double, append(tooMuch, noNumber), api.ErrArg},
		{double, tooMuch, api.ErrRange},
		{double, append([]api.Num{1, 2, 3}, tooMuch...), api.ErrRange},
	} {
		got, e := steer.Run(c.l, c.x)
		wantList(t, "Run, wrong", got, e, nil, c.e)
	}
	got, e := steer.Run(double, long[1:])
	wantList(t, "Run of as many samples as there may be", got, e, long[1:], api.OK)
}

// bigRun is what a filter makes, by integers of any size.
func bigRun(l []api.Section, x []api.Num) ([]api.Num, api.Errno) {
	for _, s := range l {
		var y []api.Num
		at := func(l []api.Num, k int) api.Num {
			if k < 0 {
				return 0
			}
			return l[k]
		}
		for k := range x {
			sum := new(big.Int)
			term := func(sign int64, a, b api.Num) {
				p := new(big.Int).Mul(big.NewInt(int64(a)), big.NewInt(int64(b)))
				sum.Add(sum, p.Mul(p, big.NewInt(sign)))
			}
			term(1, s.B0, x[k])
			term(1, s.B1, at(x, k-1))
			term(1, s.B2, at(x, k-2))
			term(-1, s.A1, at(y, k-1))
			term(-1, s.A2, at(y, k-2))
			sum.Div(sum, big.NewInt(1<<32)) // of Euclid: it rounds down
			if !sum.IsInt64() || api.Num(sum.Int64()) == noNumber {
				return nil, api.ErrRange
			}
			y = append(y, api.Num(sum.Int64()))
		}
		x = y
	}
	return x, api.OK
}

// loose returns loose sections, with factors up to a size.
func (s *sample) loose(size api.Num) []api.Loose {
	var l []api.Loose
	for range s.below(4) {
		var section api.Loose
		for i := range 5 {
			*looseFactor(&section, i) = s.any(size)
		}
		l = append(l, section)
	}
	return l
}

// sections returns sections of loose ones.
func (s *sample) sections(l []api.Loose) []api.Section {
	var out []api.Section
	for _, a := range l {
		var section api.Section
		for i := range 5 {
			*factor(&section, i) = s.in(*looseFactor(&a, i))
		}
		out = append(out, section)
	}
	return out
}

// spans returns spans up to a size.
func (s *sample) spans(n int, size api.Num) []api.Span {
	var l []api.Span
	for range n {
		l = append(l, s.any(size))
	}
	return l
}

// inAll returns a number of each span.
func (s *sample) inAll(l []api.Span) []api.Num {
	var out []api.Num
	for _, a := range l {
		out = append(out, s.in(a))
	}
	return out
}

// TestRunByIntegers: P5.1.
func TestRunByIntegers(t *testing.T) {
	s := sample{1}
	good, bad := 0, 0
	for range 20000 {
		l := s.sections(s.loose(api.MaxFactor >> s.below(4)))
		x := s.inAll(s.spans(s.below(12), api.MostNum>>(s.below(6)*s.below(12))))
		wanted, wantedE := bigRun(l, x)
		got, e := steer.Run(l, x)
		wantList(t, "Run", got, e, wanted, wantedE)
		if e == api.OK {
			good++
		} else {
			bad++
		}
	}
	if good < 5000 || bad < 1000 {
		t.Errorf("%d runs without and %d with an error", good, bad)
	}
}

// reachByBook is where what filters make is, line by line as the chapter has it.
func reachByBook(l []api.Loose, x []api.Span) ([]api.Span, api.Errno) {
	for _, s := range l {
		var y []api.Span
		at := func(l []api.Span, k int) api.Span {
			if k < 0 {
				return api.Span{}
			}
			return l[k]
		}
		for k := range x {
			var b book
			sum := b.add(b.mul(s.B0, x[k]), b.mul(s.B1, at(x, k-1)))
			sum = b.add(sum, b.mul(s.B2, at(x, k-2)))
			sum = b.sub(sum, b.mul(s.A1, at(y, k-1)))
			sum = b.sub(sum, b.mul(s.A2, at(y, k-2)))
			if b.e != api.OK {
				return nil, b.e
			}
			y = append(y, sum)
		}
		x = y
	}
	return x, api.OK
}

// TestReach: P5.1.
func TestReach(t *testing.T) {
	got, e := steer.Reach([]api.Loose{{B0: ints(1, 2), A1: whole(-1)}}, points(1, 3))
	wantList(t, "Reach", got, e, []api.Span{ints(1, 2), ints(4, 8)}, api.OK)
	got, e = steer.Reach([]api.Loose{{B0: whole(1), B1: whole(2), B2: whole(3)}}, []api.Span{ints(-1, 1), {}, {}, {}})
	wantList(t, "Reach of delays", got, e, []api.Span{ints(-1, 1), ints(-2, 2), ints(-3, 3), {}}, api.OK)
	got, e = steer.Reach([]api.Loose{{B0: whole(1), A1: whole(2), A2: whole(3)}}, points(1, 0, 0))
	wantList(t, "Reach of what is fed back", got, e, points(1, -2, 1), api.OK)
	for _, x := range [][]api.Span{nil, {}, {all(), {}}} {
		got, e = steer.Reach(nil, x)
		wantList(t, "Reach of no sections", got, e, x, api.OK)
	}
	s := sample{2}
	good, bad := 0, 0
	for range 10000 {
		l := s.loose(api.MaxFactor >> s.below(4))
		x := s.spans(s.below(12), api.MostNum>>(s.below(6)*s.below(12)))
		wanted, wantedE := reachByBook(l, x)
		got, e := steer.Reach(l, x)
		wantList(t, "Reach", got, e, wanted, wantedE)
		if e == api.OK {
			good++
		} else {
			bad++
		}
	}
	if good < 2000 || bad < 1000 {
		t.Errorf("%d spans without and %d with an error", good, bad)
	}
}

// TestReachErrors: P5.1, R1, R2.
func TestReachErrors(t *testing.T) {
	long, tooLong := make([]api.Span, api.MaxSamples+1), make([]api.Loose, api.MaxSections+1)
	double := []api.Loose{{B0: whole(2)}}
	wrongs := append(wrongSpans(), api.Span{Hi: api.MaxFactor + 1}, api.Span{Lo: -api.MaxFactor - 1}, all(), whole(5))
	for _, w := range wrongs {
		for i := range 5 {
			l := make([]api.Loose, api.MaxSections)
			*looseFactor(&l[api.MaxSections-1], i) = w
			got, e := steer.Reach(l, nil)
			wantList(t, "Reach of a wrong factor", got, e, nil, api.ErrArg)
			got, e = steer.Reach(l, points(1))
			wantList(t, "Reach of a wrong factor", got, e, nil, api.ErrArg)
			got, e = steer.Reach(l, long)
			wantList(t, "Reach of a wrong factor, and of too many spans", got, e, nil, api.ErrLong)
			got, e = steer.Reach(append(l, api.Loose{}), nil)
			wantList(t, "Reach of a wrong factor, and too many sections", got, e, nil, api.ErrLong)
		}
	}
	for _, w := range wrongSpans() {
		for _, l := range [][]api.Loose{nil, double} {
			got, e := steer.Reach(l, []api.Span{all(), w})
			wantList(t, "Reach of a wrong span", got, e, nil, api.ErrArg)
		}
		got, e := steer.Reach(tooLong, []api.Span{w})
		wantList(t, "Reach of a wrong span, and too many sections", got, e, nil, api.ErrLong)
		got, e = steer.Reach(nil, append(long, w))
		wantList(t, "Reach of a wrong span, and too many of them", got, e, nil, api.ErrLong)
	}
	got, e := steer.Reach(tooLong, nil)
	wantList(t, "Reach of too many sections", got, e, nil, api.ErrLong)
	got, e = steer.Reach(nil, long)
	wantList(t, "Reach of too many spans", got, e, nil, api.ErrLong)
	got, e = steer.Reach(double, []api.Span{{}, all()})
	wantList(t, "Reach of too great spans", got, e, nil, api.ErrRange)
	edge := api.Loose{B0: api.Span{Lo: -api.MaxFactor, Hi: api.MaxFactor}}
	got, e = steer.Reach(slices.Repeat([]api.Loose{edge}, api.MaxSections), long[1:])
	wantList(t, "Reach of as much as there may be", got, e, long[1:], api.OK)
}

// TestRunIsInReach: P5.10, P0.2.
func TestRunIsInReach(t *testing.T) {
	s := sample{3}
	good := 0
	for range 5000 {
		l, x := s.loose(api.MaxFactor>>s.below(4)), s.spans(s.below(12), api.MostNum>>(10+s.below(50)))
		z, e := steer.Reach(l, x)
		if e != api.OK {
			continue
		}
		good++
		for range 5 {
			sections, samples := s.sections(l), s.inAll(x)
			y, e := steer.Run(sections, samples)
			if e != api.OK || len(y) != len(z) {
				t.Fatalf("%v make %d of %d samples, error %d", sections, len(y), len(z), e)
			}
			for k, n := range y {
				if !span.In(z[k], n) {
					t.Fatalf("%v make %d of %v, which is not in %v", sections, n, samples, z[k])
				}
			}
		}
	}
	if good < 2000 {
		t.Errorf("only %d filters reach anything", good)
	}
}

// TestFiltersKeepNothing: P5.9, R4.
func TestFiltersKeepNothing(t *testing.T) {
	l, x := []api.Section{{B0: api.One, B1: api.One, A1: api.One / 2}}, []api.Num{3 * api.One, api.One}
	beforeL, beforeX := slices.Clone(l), slices.Clone(x)
	first, _ := steer.Run(l, x)
	second, _ := steer.Run(l, x)
	wantList(t, "the same run again", second, api.OK, first, api.OK)
	first[0]++
	copied, _ := steer.Run(nil, x)
	copied[1]++
	if !slices.Equal(l, beforeL) || !slices.Equal(x, beforeX) {
		t.Errorf("the arguments are %v, %v now", l, x)
	}

	loose, spans := []api.Loose{{B0: ints(0, 1), A2: ints(0, 1)}}, []api.Span{ints(1, 2), ints(-1, 3)}
	beforeLoose, beforeSpans := slices.Clone(loose), slices.Clone(spans)
	one, _ := steer.Reach(loose, spans)
	another, _ := steer.Reach(loose, spans)
	wantList(t, "the same spans again", another, api.OK, one, api.OK)
	copies, _ := steer.Reach(nil, spans)
	copies[0].Lo--
	if !slices.Equal(loose, beforeLoose) || !slices.Equal(spans, beforeSpans) {
		t.Errorf("the arguments are %v, %v now", loose, spans)
	}
}

// TestSteady: P5.2.
func TestSteady(t *testing.T) {
	half := api.One / 2
	for _, c := range []struct {
		a1, a2 api.Span
		want   int
	}{
		{point(-half), whole(0), 1},
		{whole(-2), point(half), -1},
		{whole(-1), whole(0), 0},
		{whole(0), whole(0), 1},
		// Each of the three at 0, and one unit above and below.
		{whole(0), whole(1), 0},
		{whole(0), point(api.One - 1), 1},
		{whole(0), point(api.One + 1), -1},
		{whole(-1), point(1), 1},
		{whole(-1), point(-1), -1},
		{whole(1), whole(0), 0},
		{whole(1), point(1), 1},
		{whole(1), point(-1), -1},
		{ints(-1, 1), point(half), 1},
		{ints(-2, 2), point(half), 0},
		{ints(0, 1), ints(0, 1), 0},
		{api.Span{Lo: -half, Hi: half}, api.Span{Lo: -half + 1, Hi: half}, 1},
		{api.Span{Lo: -half, Hi: half}, api.Span{Lo: -half, Hi: half}, 0},
		{ints(-9, 9), ints(2, 3), -1},
		{ints(3, 4), ints(-1, 1), -1},
		{ints(-4, -3), ints(-1, 1), -1},
		{all(), whole(2), 0},               // an error of the second one
		{whole(0), all(), 0},               // an error of the first one
		{point(api.MostNum), whole(5), 0},  // 1 - a2 is below 0, but 1 + a1 leaves the range
		{point(-api.MostNum), whole(5), 0}, // 1 + a1 + a2 is below 0, too, but 1 - a1 leaves the range
		{point(api.MostNum - api.One), whole(1), 0},
		{point(api.MostNum - api.One), whole(0), -1},
		{point(-api.MostNum + api.One), whole(1), 0},
		{whole(2), point(-api.MostNum), 0},
	} {
		if got := steer.Steady(c.a1, c.a2); got != c.want {
			t.Errorf("Steady(%v, %v) is %d, want %d", c.a1, c.a2, got, c.want)
		}
	}
	for _, w := range wrongSpans() {
		if steer.Steady(w, whole(3)) != 0 || steer.Steady(whole(3), w) != 0 || steer.Steady(w, w) != 0 {
			t.Errorf("Steady of %v is not 0", w)
		}
	}
}

// rootSize returns the greatest size of a root of z² + x z + y.
func rootSize(x, y float64) float64 {
	d := x*x/4 - y
	if d < 0 {
		return math.Sqrt(y)
	}
	return math.Abs(x)/2 + math.Sqrt(d)
}

// TestSteadyForgets: P5.2, by what is left of an impulse.
func TestSteadyForgets(t *testing.T) {
	s := sample{4}
	count := map[int]int{}
	for range 3000 {
		a1, a2 := s.near(5*api.One/2), s.near(3*api.One/2)
		is := steer.Steady(a1, a2)
		count[is]++
		for range 3 {
			x, y := float(s.in(a1)), float(s.in(a2))
			size := rootSize(x, y)
			if is == 1 && size >= 1 || is == -1 && size < 1 {
				t.Errorf("Steady(%v, %v) is %d, but a root of %v, %v has the size %v", a1, a2, is, x, y, size)
			}
		}
	}
	if count[1] < 200 || count[0] < 200 || count[-1] < 200 {
		t.Errorf("the counts are %v", count)
	}
}
