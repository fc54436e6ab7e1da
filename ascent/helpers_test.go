package ascent_test

import (
	"slices"
	"testing"

	"ullage/api"
	"ullage/span"
)

// noNumber is the least int64.
const noNumber = -api.MostNum - 1

// point returns the span of one number.
func point(n api.Num) api.Span { return api.Span{Lo: n, Hi: n} }

// whole returns the span of an integer.
func whole(n int) api.Span { return point(api.Num(n) * api.One) }

// ints returns a span of integers.
func ints(low, high int) api.Span {
	return api.Span{Lo: api.Num(low) * api.One, Hi: api.Num(high) * api.One}
}

// part returns the number a / b, rounded down.
func part(a, b int) api.Num {
	s, _ := span.Ratio(a, b)
	return s.Lo
}

// parts returns the span from a / b to c / b.
func parts(a, c, b int) api.Span {
	low, _ := span.Ratio(a, b)
	high, _ := span.Ratio(c, b)
	return api.Span{Lo: low.Lo, Hi: high.Hi}
}

// box returns a box of integers.
func box(x, y, z int) api.Box { return api.Box{whole(x), whole(y), whole(z)} }

// all is all numbers.
func all() api.Span { return api.Span{Lo: -api.MostNum, Hi: api.MostNum} }

// wrongSpans are spans that are not valid, for each reason.
func wrongSpans() []api.Span {
	return []api.Span{{Lo: 1, Hi: 0}, {Lo: noNumber, Hi: 0}, {Lo: noNumber, Hi: noNumber}, {Lo: 0, Hi: noNumber}}
}

// table is a valid table.
func table() []api.Point {
	return []api.Point{{At: 0, Value: ints(2, 3)}, {At: 10 * api.One, Value: ints(1, 1)}}
}

// full is a valid task that uses all that there is.
func full() api.Ascent {
	a := api.Arc{Time: 5 * api.One, Step: 2 * api.One, Thrust: ints(1, 2), Flow: ints(0, 1), Drag: table(), Drop: ints(0, 1)}
	b := a
	b.Drag = table()
	return api.Ascent{
		Planet:  api.Planet{Mu: ints(100, 101), Radius: ints(9, 10), Oblate: ints(-1, 1), Spin: ints(-1, 1), Pull: box(-1, 2, 3)},
		Start:   api.State{T: -api.One, P: box(20, -1, 2), V: box(1, 2, -3), M: ints(4, 5)},
		East:    api.Box{ints(-1, 0), ints(0, 1), whole(1)},
		Up:      api.Box{ints(-1, 1), whole(0), parts(1, 2, 3)},
		Parts:   []api.Part{{Arc: a, Pitch: ints(-1, 1), Level: ints(0, 1)}, {Arc: b, Pitch: parts(-1, 1, 4), Level: parts(1, 3, 4)}},
		Density: table(),
		Axial:   api.One, Bending: api.One, Gap: api.One,
		Height: ints(1, 2), Speed: ints(3, 4), Climb: ints(-1, 1),
	}
}

// easy is a task of one part that thrusts upwards, without a planet; all of its climbs reach.
func easy() api.Ascent {
	t := api.Ascent{Start: api.State{P: box(0, 0, 1), M: whole(8)}, East: box(1, 0, 0), Up: box(0, 0, 1)}
	a := api.Arc{Time: 8 * api.One, Step: 2 * api.One, Thrust: parts(1, 1, 16), Flow: parts(1, 1, 4)}
	t.Parts = []api.Part{{Arc: a, Pitch: whole(1), Level: parts(1, 2, 2)}}
	t.Axial, t.Height, t.Speed, t.Climb = api.One, all(), all(), all()
	return t
}

// hop is a task of two parts over flat ground that pulls: a climb has to come to some height, and not to be too fast there.
func hop() api.Ascent {
	air := []api.Point{{At: 0, Value: parts(1, 1, 200)}, {At: 4 * api.One, Value: parts(1, 1, 400)}}
	first := api.Arc{Time: 8 * api.One, Step: api.One, Thrust: parts(9, 9, 8), Flow: parts(1, 1, 8), Drag: air, Drop: parts(1, 1, 2)}
	second := api.Arc{Time: 6*api.One + 1, Step: api.One, Thrust: parts(3, 3, 8), Flow: parts(1, 1, 16)}
	return api.Ascent{
		Planet:  api.Planet{Pull: api.Box{2: parts(-1, -1, 16)}},
		Start:   api.State{P: box(0, 0, 1), M: whole(8)},
		East:    box(1, 0, 0),
		Up:      box(0, 0, 1),
		Parts:   []api.Part{{Arc: first, Pitch: parts(3, 4, 4), Level: parts(1, 2, 2)}, {Arc: second, Pitch: parts(0, 1, 4), Level: parts(0, 2, 2)}},
		Density: []api.Point{{Value: parts(1, 1, 8)}},
		Axial:   part(1, 4), Bending: part(1, 8),
		Height: parts(7, 10, 2), Speed: parts(0, 9, 8), Climb: parts(0, 5, 4),
		Gap: part(1, 32),
	}
}

// ball is a task of three parts over a planet that turns.
func ball() api.Ascent {
	a := api.Arc{Time: 6 * api.One, Step: api.One, Thrust: parts(30, 31, 10), Flow: parts(3, 3, 10)}
	b := api.Arc{Time: 4 * api.One, Step: api.One, Drop: parts(1, 1, 2)}
	return api.Ascent{
		Planet: api.Planet{Mu: parts(40, 41, 1), Radius: whole(20), Oblate: parts(1, 1, 100), Spin: parts(1, 1, 100)},
		Start:  api.State{P: box(20, 0, 0), M: whole(10)},
		East:   box(0, 1, 0),
		Up:     box(1, 0, 0),
		Parts: []api.Part{
			{Arc: a, Pitch: parts(3, 4, 4), Level: parts(1, 2, 2)},
			{Arc: b},
			{Arc: a, Pitch: parts(1, 2, 4), Level: parts(0, 2, 2)},
		},
		Axial: part(9, 16), Height: ints(7, 40), Speed: ints(0, 4), Climb: ints(-2, 4),
		Gap: part(3, 4),
	}
}

// tasks are those that are searched.
func tasks() []api.Ascent { return []api.Ascent{easy(), hop(), ball()} }

// want checks a result and its error.
func want[T comparable](t *testing.T, what string, got T, e api.Errno, wanted T, wantedE api.Errno) {
	t.Helper()
	if got != wanted || e != wantedE {
		t.Errorf("%s: %v, error %d; want %v, error %d", what, got, e, wanted, wantedE)
	}
}

// wantList checks a list and its error.
func wantList[T comparable](t *testing.T, what string, got []T, e api.Errno, wanted []T, wantedE api.Errno) {
	t.Helper()
	if !slices.Equal(got, wanted) || e != wantedE {
		t.Errorf("%s: %v, error %d; want %v, error %d", what, got, e, wanted, wantedE)
	}
}

// sample makes numbers in a fixed order that looks like none.
type sample struct{ state uint64 }

// next returns a number of 64 bits.
func (s *sample) next() uint64 {
	s.state = s.state*6364136223846793005 + 1442695040888963407
	n := s.state
	n ^= n >> 29
	n *= 0xbf58476d1ce4e5b9
	return n ^ n>>32
}

// below returns a number from 0 to below n.
func (s *sample) below(n int) int { return int(s.next() % uint64(n)) }

// in returns a number of a span; its ends are frequent.
func (s *sample) in(a api.Span) api.Num {
	switch s.below(6) {
	case 0:
		return a.Lo
	case 1:
		return a.Hi
	}
	return a.Lo + api.Num(s.next()%(uint64(a.Hi-a.Lo)+1))
}

// within returns a span within another one.
func (s *sample) within(a api.Span) api.Span {
	m, n := s.in(a), s.in(a)
	return api.Span{Lo: min(m, n), Hi: max(m, n)}
}

// cell returns a cell within another one.
func (s *sample) cell(c []api.Knob) []api.Knob {
	var l []api.Knob
	for _, k := range c {
		l = append(l, api.Knob{Pitch: s.within(k.Pitch), Level: s.within(k.Level)})
	}
	return l
}

// climb returns a climb of a cell.
func (s *sample) climb(c []api.Knob) []api.Knob {
	var l []api.Knob
	for _, k := range c {
		l = append(l, api.Knob{Pitch: point(s.in(k.Pitch)), Level: point(s.in(k.Level))})
	}
	return l
}

// num returns a number from 0 to size; small ones are as frequent as great ones.
func (s *sample) num(size api.Num) api.Num {
	return api.Num(s.next()%(uint64(size)+1)) >> s.below(40)
}

// any returns a span of numbers from -size to size, often a narrow one.
func (s *sample) any(size api.Num) api.Span {
	n := s.num(size)
	if s.below(2) == 0 {
		n = -n
	}
	return api.Span{Lo: n, Hi: min(size, n+s.num(size/2)>>s.below(60))}
}

// positive returns a span of numbers that are not negative, up to size.
func (s *sample) positive(size api.Num) api.Span {
	a := s.any(size)
	return api.Span{Lo: max(0, a.Lo), Hi: max(0, a.Hi)}
}

// box returns a box of any spans.
func (s *sample) box(size api.Num) api.Box {
	return api.Box{s.any(size), s.any(size), s.any(size)}
}

// table returns a valid table, or none.
func (s *sample) table() []api.Point {
	var l []api.Point
	at := -s.num(api.MaxPart)
	for range s.below(4) {
		l = append(l, api.Point{At: at, Value: s.positive(api.MaxPart)})
		at += 1 + s.num(api.MaxPart>>1)
	}
	return l
}

// anything returns a valid task of any numbers, also of such that nothing can be computed of.
func (s *sample) anything() api.Ascent {
	size := api.MostNum >> s.below(40)
	t := api.Ascent{
		Planet: api.Planet{Radius: s.positive(size), Oblate: s.any(size), Pull: s.box(size)},
		Start:  api.State{T: s.num(size), P: s.box(size), V: s.box(size), M: s.positive(size)},
		East:   s.box(api.One),
		Up:     s.box(api.One),
		Axial:  s.num(size), Bending: s.num(size), Gap: s.num(size),
		Density: s.table(),
		Height:  s.any(size), Speed: s.any(size), Climb: s.any(size),
	}
	t.Start.M.Lo++
	t.Start.M.Hi = max(t.Start.M.Lo, t.Start.M.Hi)
	if s.below(2) == 0 {
		t.Planet.Mu, t.Planet.Spin = s.positive(size), s.any(api.One)
	}
	if s.below(2) == 0 {
		t.Height, t.Speed, t.Climb, t.Axial, t.Bending = all(), all(), all(), api.MostNum, api.MostNum
	}
	for range 1 + s.below(3) {
		time := 1 + s.num(size-1)
		a := api.Arc{Time: time, Step: 1 + time/api.Num(1+s.below(5)), Thrust: s.positive(size), Flow: s.positive(size), Dir: s.box(size), Drop: s.positive(size)}
		if s.below(3) == 0 {
			a.Drag = s.table()
		}
		level := s.positive(api.One)
		t.Parts = append(t.Parts, api.Part{Arc: a, Pitch: s.any(api.One), Level: level})
	}
	return t
}
