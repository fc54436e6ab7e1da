package nav_test

import (
	"math/bits"
	"slices"
	"testing"

	"ullage/api"
	"ullage/nav"
	"ullage/span"
)

// oops is a panic with an error.
type oops struct{ e api.Errno }

// ok returns what an operation returns, or panics with its error.
func ok[T any](v T, e api.Errno) T {
	if e != api.OK {
		panic(oops{e})
	}
	return v
}

// byBook does what the chapter's lines say, up to the first error.
func byBook[T any](lines func() T) (out T, e api.Errno) {
	defer func() {
		if x, is := recover().(oops); is {
			e = x.e
		}
	}()
	return lines(), api.OK
}

// wayByBook is D.
func wayByBook(P, From api.Box) api.Box {
	var D api.Box
	for i := range 3 {
		D[i] = ok(span.Sub(P[i], From[i]))
	}
	return D
}

// readByBook is the reading of a measurement, line by line as the chapter has it.
func readByBook(s api.State, m api.Radio) (api.Span, api.Errno) {
	return byBook(func() api.Span {
		switch m.Kind {
		case distance:
			D := wayByBook(s.P, m.From)
			return ok(span.Norm(D[:]))
		case departure:
			D := wayByBook(s.P, m.From)
			return ok(span.Div(ok(span.Dot(D[:], s.V[:])), ok(span.Norm(D[:]))))
		case alongPlace:
			return ok(span.Dot(m.Dir[:], s.P[:]))
		}
		return ok(span.Dot(m.Dir[:], s.V[:]))
	})
}

// sumByBook cuts by a sum, line by line.
func sumByBook(X, A api.Box, R api.Span) api.Box {
	one := func(i, j, k int) {
		O := ok(span.Add(ok(span.Mul(A[j], X[j])), ok(span.Mul(A[k], X[k]))))
		N := ok(span.Sub(R, O))
		if span.In(A[i], 0) {
			return
		}
		Q, e := span.Div(N, A[i])
		if e != api.OK {
			return
		}
		X[i] = ok(span.Meet(X[i], Q))
	}
	one(0, 1, 2)
	one(1, 0, 2)
	one(2, 0, 1)
	if sum := ok(span.Dot(A[:], X[:])); sum.Hi < R.Lo || R.Hi < sum.Lo {
		panic(oops{api.ErrNone})
	}
	return X
}

// distanceByBook cuts by a distance, line by line.
func distanceByBook(P, From api.Box, R api.Span) api.Box {
	R = ok(span.Meet(R, api.Span{Lo: 0, Hi: api.MostNum}))
	D := wayByBook(P, From)
	Q := api.Box{ok(span.Square(D[0])), ok(span.Square(D[1])), ok(span.Square(D[2]))}
	S := ok(span.Square(R))
	one := func(i, j, k int) {
		F := ok(span.Sub(S, ok(span.Add(Q[j], Q[k]))))
		if span.Sign(F) == -1 {
			panic(oops{api.ErrNone})
		}
		G := ok(span.Root(F))
		var both []api.Span
		for _, g := range []api.Span{G, {Lo: -G.Hi, Hi: -G.Lo}} {
			if span.Order(D[i], g) == 0 {
				both = append(both, ok(span.Meet(D[i], g)))
			}
		}
		switch len(both) {
		case 0:
			panic(oops{api.ErrNone})
		case 1:
			D[i] = both[0]
		case 2:
			D[i] = ok(span.Hull(both[0], both[1]))
		}
		P[i] = ok(span.Meet(P[i], ok(span.Add(D[i], From[i]))))
		Q[i] = ok(span.Square(D[i]))
	}
	one(0, 1, 2)
	one(1, 0, 2)
	one(2, 0, 1)
	return P
}

// cutByBook cuts a state by a measurement, line by line.
func cutByBook(s api.State, m api.Radio) (api.State, api.Errno) {
	return byBook(func() api.State {
		switch m.Kind {
		case distance:
			s.P = distanceByBook(s.P, m.From, m.Value)
		case departure:
			D := wayByBook(s.P, m.From)
			s.V = sumByBook(s.V, D, ok(span.Mul(m.Value, ok(span.Norm(D[:])))))
		case alongPlace:
			s.P = sumByBook(s.P, m.Dir, m.Value)
		case alongVelocity:
			s.V = sumByBook(s.V, m.Dir, m.Value)
		}
		return s
	})
}

// fuseByBook is Fuse, line by line.
func fuseByBook(s api.State, l []api.Radio, rounds int) (fused, api.Errno) {
	for n := 1; n <= rounds; n++ {
		before := s
		for _, m := range l {
			next, e := cutByBook(s, m)
			if e == api.ErrNone {
				return fused{}, e
			}
			if e == api.OK {
				s = next
			}
		}
		if s == before {
			return fused{s, n}, api.OK
		}
	}
	return fused{s, rounds}, api.OK
}

// trustByBook is Trust, for all masks of measurements.
func trustByBook(s api.State, l []api.Radio, wrong, rounds int) (api.State, api.Errno) {
	var states []api.State
	for mask := range 1 << len(l) {
		if bits.OnesCount(uint(mask)) != wrong {
			continue
		}
		var some []api.Radio
		for i, m := range l {
			if mask>>i&1 == 0 {
				some = append(some, m)
			}
		}
		if f, e := fuseByBook(s, some, rounds); e == api.OK {
			states = append(states, f.s)
		}
	}
	if len(states) == 0 {
		return api.State{}, api.ErrNone
	}
	for i := range 3 {
		s.P[i], s.V[i] = states[0].P[i], states[0].V[i]
		for _, other := range states {
			s.P[i] = ok(span.Hull(s.P[i], other.P[i]))
			s.V[i] = ok(span.Hull(s.V[i], other.V[i]))
		}
	}
	return s, api.OK
}

// suspectsByBook is Suspects, line by line.
func suspectsByBook(s api.State, l []api.Radio, rounds int) []int {
	if _, e := fuseByBook(s, l, rounds); e != api.ErrNone {
		return nil
	}
	var out []int
	for i := range l {
		if _, e := fuseByBook(s, slices.Delete(slices.Clone(l), i, i+1), rounds); e != api.ErrNone {
			out = append(out, i)
		}
	}
	return out
}

// scene is a point, a state that contains it, and measurements, with some of which the point agrees.
type scene struct {
	p, v [3]api.Num
	s    api.State
	l    []api.Radio
}

// radio is a measurement of a point, wrong or right.
func (s *sample) radio(p, v [3]api.Num, size api.Num, right bool) api.Radio {
	m := api.Radio{Kind: s.below(4)}
	exact := m // with the true From and Dir
	for i := range 3 {
		from := s.in(api.Span{Lo: -size, Hi: size})
		dir := s.in(ints(-1, 1))
		switch s.below(4) {
		case 0:
			dir = api.Num(s.below(3)-1) * api.One
		case 1:
			if size == huge*api.One {
				dir *= huge
			}
		}
		exact.From[i], exact.Dir[i] = point(from), point(dir)
		m.From[i], m.Dir[i] = s.around(from, size/64), s.around(dir, api.One/16)
	}
	value, e := readByBook(pointState(p, v), exact)
	if e != api.OK {
		m.Value = s.part(all())
		return m
	}
	wide := size / 16
	if s.below(6) == 0 {
		wide = 4 * size
	}
	m.Value = api.Span{Lo: s.around(value.Lo, wide).Lo, Hi: s.around(value.Hi, wide).Hi}
	if !right && span.Within(m.Value, api.Span{Lo: -api.MostNum / 2, Hi: api.MostNum / 2}) {
		off := size/32 + api.Num(s.next()%uint64(size))
		if s.below(2) == 0 {
			off = -off
		}
		m.Value.Lo += off
		m.Value.Hi += off
	}
	return m
}

// pointState is a state of one point.
func pointState(p, v [3]api.Num) api.State {
	s := api.State{M: whole(1)}
	for i := range 3 {
		s.P[i], s.V[i] = point(p[i]), point(v[i])
	}
	return s
}

// scene makes one with so many measurements, one of some of which is wrong; sometimes it is so great that squares do not fit.
func (s *sample) scene(count, wrongOf int) scene {
	size, fast := api.One<<s.below(17), 9*api.One
	if s.below(8) == 0 {
		size, fast = huge*api.One, huge*api.One/256
	}
	var sc scene
	sc.s = api.State{T: s.in(all()), M: ints(1, 1+s.below(2))}
	for i := range 3 {
		sc.p[i] = s.in(api.Span{Lo: -size, Hi: size})
		sc.v[i] = s.in(api.Span{Lo: -fast, Hi: fast})
		sc.s.P[i] = s.around(sc.p[i], size)
		sc.s.V[i] = s.around(sc.v[i], fast)
	}
	for range count {
		sc.l = append(sc.l, s.radio(sc.p, sc.v, size, s.below(wrongOf) != 0))
	}
	return sc
}

// TestCutByBook: P6.1, P6.2. Readings and cuts are those of the chapter's lines, to the last bit and error.
func TestCutByBook(t *testing.T) {
	s := sample{1}
	var errors [4]map[api.Errno]int
	var cut [4]int
	for i := range errors {
		errors[i] = map[api.Errno]int{}
	}
	for range 40000 {
		sc := s.scene(1, 3)
		m := sc.l[0]
		reading, e := nav.Reading(sc.s, m)
		wanted, wantedE := readByBook(sc.s, m)
		want(t, "Reading", reading, e, wanted, wantedE)
		agrees := 0
		if e == api.OK && m.Value.Lo <= wanted.Lo && wanted.Hi <= m.Value.Hi {
			agrees = 1
		} else if e == api.OK && (wanted.Hi < m.Value.Lo || m.Value.Hi < wanted.Lo) {
			agrees = -1
		}
		want(t, "Agrees", nav.Agrees(sc.s, m), api.OK, agrees, api.OK)
		got, e := nav.Cut(sc.s, m)
		wantedCut, wantedE := cutByBook(sc.s, m)
		want(t, "Cut", got, e, wantedCut, wantedE)
		errors[m.Kind][e]++
		if e == api.OK && got != sc.s {
			cut[m.Kind]++
		}
	}
	for kind, l := range errors {
		if cut[kind] < 1000 || l[api.ErrNone] < 500 || l[api.ErrRange] < 50 {
			t.Errorf("kind %d: %d cut something, the errors are %v", kind, cut[kind], l)
		}
	}
}

// TestFuseByBook: P6.3 to P6.5, to the last bit.
func TestFuseByBook(t *testing.T) {
	s := sample{2}
	errors := map[api.Errno]int{}
	trusted := map[api.Errno]int{}
	took := map[int]int{}
	suspected := map[int]int{}
	for range 6000 {
		sc := s.scene(s.below(8), 3+s.below(20))
		rounds := s.below(api.MaxFuse + 1)
		wanted, wantedE := fuseByBook(sc.s, sc.l, rounds)
		got, n, e := nav.Fuse(sc.s, sc.l, rounds)
		wantFused(t, "Fuse", got, n, e, wanted, wantedE)
		errors[e]++
		took[n]++
		for wrong := range min(2, len(sc.l)) + 1 {
			wanted, wantedE := trustByBook(sc.s, sc.l, wrong, rounds)
			got, e := nav.Trust(sc.s, sc.l, wrong, rounds)
			want(t, "Trust", got, e, wanted, wantedE)
			trusted[e]++
		}
		suspects, e := nav.Suspects(sc.s, sc.l, rounds)
		wantList(t, "Suspects", suspects, e, suspectsByBook(sc.s, sc.l, rounds), api.OK)
		suspected[len(suspects)]++
	}
	for what, l := range map[string]map[api.Errno]int{"Fuse": errors, "Trust": trusted} {
		if l[api.OK] < 1000 || l[api.ErrNone] < 500 {
			t.Errorf("%s: the errors are %v", what, l)
		}
	}
	for n := range 6 {
		if took[n] < 20 {
			t.Errorf("only %d fusions take %d rounds", took[n], n)
		}
	}
	for n := range 3 {
		if suspected[n] < 20 {
			t.Errorf("only %d times there are %d suspects", suspected[n], n)
		}
	}
}
