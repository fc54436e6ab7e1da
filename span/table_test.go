package span_test

import (
	"math/big"
	"slices"
	"testing"

	"ullage/api"
	"ullage/span"
)

// slope is a table from (0: 1 to 2) to (10: 3 to 6).
func slope() []api.Point {
	return []api.Point{{At: 0, Value: ints(1, 2)}, {At: 10 * api.One, Value: ints(3, 6)}}
}

// rows returns a valid table of so many points.
func rows(n int) []api.Point {
	var l []api.Point
	for i := range n {
		l = append(l, api.Point{At: api.Num(i), Value: ints(-i, i*i)})
	}
	return l
}

// wrongTables are tables that are not valid, for each reason.
func wrongTables() [][]api.Point {
	long := rows(api.MaxTable + 1)
	most := api.MaxPart
	return [][]api.Point{
		nil,
		{},
		long,
		{{At: 0}, {At: 0}},
		{{At: 1}, {At: 0}},
		{{At: 0}, {At: 1}, {At: 2}, {At: 2}},
		{{At: 0, Value: api.Span{Lo: 1, Hi: 0}}},
		{{At: 0}, {At: 1, Value: api.Span{Lo: noNumber, Hi: 0}}},
		{{At: most + 1}},
		{{At: -most - 1}},
		{{At: noNumber}},
		{{At: 0}, {At: api.MostNum}},
		{{At: 0, Value: api.Span{Hi: most + 1}}},
		{{At: 0, Value: api.Span{Lo: -most - 1}}},
		{{At: 0, Value: point(api.MostNum)}},
	}
}

// widestTable has numbers that are as great as they may be.
func widestTable() []api.Point {
	most := api.MaxPart
	return []api.Point{
		{At: -most, Value: api.Span{Lo: -most, Hi: most}},
		{At: most, Value: point(most)},
	}
}

// TestCheckTable: P1.8.
func TestCheckTable(t *testing.T) {
	for i, l := range wrongTables() {
		if e := span.CheckTable(l); e != api.ErrArg {
			t.Errorf("wrong table %d: %d", i, e)
		}
		a, e := span.Look(l, ints(0, 0))
		wantSpan(t, "Look in a wrong table", a, e, api.Span{}, api.ErrArg)
	}
	for i, l := range [][]api.Point{slope(), widestTable(), rows(1), rows(api.MaxTable)} {
		if e := span.CheckTable(l); e != api.OK {
			t.Errorf("table %d: %d", i, e)
		}
	}
}

// onLine returns what a line through points has at a place.
func onLine(l []api.Point, x api.Num, of func(api.Span) api.Num) *big.Rat {
	if x <= l[0].At {
		return rat(of(l[0].Value))
	}
	for i, q := range l[1:] {
		p := l[i]
		if x <= q.At {
			part := quotient(difference(rat(x), rat(p.At)), difference(rat(q.At), rat(p.At)))
			return sum(rat(of(p.Value)), product(part, difference(rat(of(q.Value)), rat(of(p.Value)))))
		}
	}
	return rat(of(l[len(l)-1].Value))
}

// exactLook returns what Look has to return: the bounds are at the ends of x or at points within.
func exactLook(l []api.Point, x api.Span) (api.Span, api.Errno) {
	places := []api.Num{x.Lo, x.Hi}
	for _, p := range l {
		if x.Lo <= p.At && p.At <= x.Hi {
			places = append(places, p.At)
		}
	}
	var all []*big.Rat
	for _, n := range places {
		all = append(all, onLine(l, n, func(a api.Span) api.Num { return a.Lo }), onLine(l, n, func(a api.Span) api.Num { return a.Hi }))
	}
	return roundOut(all...)
}

// TestLook: P1.8.
func TestLook(t *testing.T) {
	hill := []api.Point{{At: 0, Value: ints(0, 1)}, {At: api.One, Value: ints(5, 9)}, {At: 2 * api.One, Value: ints(-3, -2)}, {At: 3 * api.One, Value: ints(0, 1)}}
	third := []api.Point{{At: 0, Value: point(0)}, {At: 3, Value: point(1)}}
	fall := []api.Point{{At: 0, Value: point(0)}, {At: 3, Value: point(-1)}}
	for _, c := range []struct {
		l    []api.Point
		x    api.Span
		want api.Span
	}{
		{slope(), ints(5, 20), ints(2, 6)},
		{slope(), ints(-7, -7), ints(1, 2)},
		{slope(), ints(5, 5), ints(2, 4)},
		{slope(), ints(-1, 11), ints(1, 6)},
		{slope(), ints(10, 10), ints(3, 6)},
		{slope(), point(api.MostNum), ints(3, 6)},
		{slope(), point(-api.MostNum), ints(1, 2)},
		{hill, ints(0, 3), ints(-3, 9)},
		{hill, api.Span{Lo: api.One / 2, Hi: 3 * api.One / 2}, api.Span{Lo: api.One, Hi: 9 * api.One}},
		{hill, api.Span{Lo: 3 * api.One / 2, Hi: 4 * api.One}, api.Span{Lo: -3 * api.One, Hi: 7 * api.One / 2}},
		{third, point(1), api.Span{Lo: 0, Hi: 1}},
		{third, point(3), point(1)},
		{fall, point(1), api.Span{Lo: -1, Hi: 0}},
		{rows(1), ints(-5, 5), point(0)},
		{widestTable(), api.Span{Lo: -api.MostNum, Hi: api.MostNum}, api.Span{Lo: -api.MaxPart, Hi: api.MaxPart}},
		{widestTable(), point(0), api.Span{Lo: 0, Hi: api.MaxPart}},
	} {
		a, e := span.Look(c.l, c.x)
		wantSpan(t, "Look", a, e, c.want, api.OK)
	}
	for _, w := range wrongSpans() {
		a, e := span.Look(slope(), w)
		wantSpan(t, "Look at a wrong span", a, e, api.Span{}, api.ErrArg)
	}
}

// someTable returns a valid table with numbers of all sizes.
func someTable(s *sample) []api.Point {
	at := map[api.Num]bool{}
	for range 1 + s.next()%6 {
		at[s.num()/4] = true
	}
	var l []api.Point
	for n := range at {
		l = append(l, api.Point{At: n})
	}
	slices.SortFunc(l, func(p, q api.Point) int {
		if p.At < q.At {
			return -1
		}
		return 1
	})
	for i := range l {
		a := s.span()
		l[i].Value = api.Span{Lo: a.Lo / 4, Hi: a.Hi / 4}
	}
	return l
}

// TestLookMany: P1.8, P1.11.
func TestLookMany(t *testing.T) {
	s := sample{4}
	for range 2000 {
		l := someTable(&s)
		before := slices.Clone(l)
		for range 5 {
			x := s.span()
			a, e := span.Look(l, x)
			want, wantE := exactLook(l, x)
			wantSpan(t, "Look", a, e, want, wantE)
			within := s.part(api.Span{Lo: l[0].At, Hi: l[len(l)-1].At})
			a, e = span.Look(l, within)
			want, wantE = exactLook(l, within)
			wantSpan(t, "Look within the table", a, e, want, wantE)
		}
		for _, p := range l {
			a, e := span.Look(l, point(p.At))
			wantSpan(t, "Look at a point of the table", a, e, p.Value, api.OK)
		}
		if !slices.Equal(l, before) {
			t.Fatal("Look changes the table")
		}
	}
}

// directions returns (1 - t²) / (1 + t²) and 2 t / (1 + t²).
func directions(t *big.Rat) (c, s *big.Rat) {
	one := ratOf(1)
	under := sum(one, product(t, t))
	return quotient(difference(one, product(t, t)), under), quotient(sum(t, t), under)
}

// TestTurn: P1.9.
func TestTurn(t *testing.T) {
	c, s, e := span.Turn(ints(-1, 1))
	wantSpan(t, "Turn, the first", c, e, ints(0, 1), api.OK)
	wantSpan(t, "Turn, the second", s, e, ints(-1, 1), api.OK)
	c, s, e = span.Turn(point(api.One / 2))
	wantSpan(t, "Turn of 1/2, the first", c, e, api.Span{Lo: 2576980377, Hi: 2576980378}, api.OK)
	wantSpan(t, "Turn of 1/2, the second", s, e, api.Span{Lo: 3435973836, Hi: 3435973837}, api.OK)
	for n, want := range map[api.Num][2]api.Span{0: {ints(1, 1), ints(0, 0)}, api.One: {ints(0, 0), ints(1, 1)}, -api.One: {ints(0, 0), ints(-1, -1)}} {
		c, s, e := span.Turn(point(n))
		wantSpan(t, "Turn of a point, the first", c, e, want[0], api.OK)
		wantSpan(t, "Turn of a point, the second", s, e, want[1], api.OK)
	}
	for _, a := range []api.Span{point(api.One + 1), point(-api.One - 1), {Lo: 0, Hi: api.One + 1}, {Lo: -api.One - 1, Hi: 0}, {Lo: -api.MostNum, Hi: api.MostNum}, ints(2, 3)} {
		c, s, e := span.Turn(a)
		wantSpan(t, "Turn out of range, the first", c, e, api.Span{}, api.ErrRange)
		wantSpan(t, "Turn out of range, the second", s, e, api.Span{}, api.ErrRange)
	}
}

// TestTurnMany: P1.9, and P1.11 of the sum of the squares.
func TestTurnMany(t *testing.T) {
	r := sample{5}
	l := spans([]api.Num{-api.One, -api.One + 1, -api.One / 2, -1 << 16, -2, -1, 0, 1, 2, 1 << 16, 1<<31 + 1, api.One - 1, api.One})
	for range 3000 {
		l = append(l, r.part(ints(-1, 1)), point(r.in(ints(-1, 1))))
	}
	for _, a := range l {
		c, s, e := span.Turn(a)
		firstC, firstS := directions(rat(a.Lo))
		lastC, lastS := directions(rat(a.Hi))
		cosines := []*big.Rat{firstC, lastC}
		if a.Lo <= 0 && a.Hi >= 0 {
			cosines = append(cosines, ratOf(1))
		}
		want, wantE := roundOut(cosines...)
		wantSpan(t, "Turn, the first", c, e, want, wantE)
		want, wantE = roundOut(firstS, lastS)
		wantSpan(t, "Turn, the second", s, e, want, wantE)
		squares := [2]api.Span{}
		for i, x := range []api.Span{c, s} {
			squares[i], _ = span.Square(x)
		}
		if one, _ := span.Add(squares[0], squares[1]); !span.In(one, api.One) {
			t.Errorf("Turn(%v): the sum of the squares, %v, does not contain 1", a, one)
		}
	}
}
