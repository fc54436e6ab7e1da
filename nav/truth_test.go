package nav_test

import (
	"math/big"
	"testing"

	"ullage/api"
	"ullage/nav"
	"ullage/span"
)

// product returns the sum of the products of numbers.
func product(a, b [3]*big.Rat) *big.Rat {
	sum := new(big.Rat)
	for i := range 3 {
		sum.Add(sum, new(big.Rat).Mul(a[i], b[i]))
	}
	return sum
}

// rats returns the numbers that some stand for.
func rats(l [3]api.Num) [3]*big.Rat { return [3]*big.Rat{rat(l[0]), rat(l[1]), rat(l[2])} }

// ends returns the lows or the highs of a box.
func ends(b api.Box, high bool) [3]api.Num {
	var l [3]api.Num
	for i, a := range b {
		l[i] = a.Lo
		if high {
			l[i] = a.Hi
		}
	}
	return l
}

// signedSquare returns x |x|, which rises with x.
func signedSquare(x *big.Rat) *big.Rat {
	return new(big.Rat).Mul(x, new(big.Rat).Abs(x))
}

// isReading reports, exactly, whether the true reading of a point is in a value, for one From and Dir.
func isReading(p, v [3]api.Num, kind int, from, dir [3]api.Num, value api.Span) bool {
	place, speed := rats(p), rats(v)
	low, high := rat(value.Lo), rat(value.Hi)
	switch kind {
	case alongPlace, alongVelocity:
		x := product(rats(dir), map[int][3]*big.Rat{alongPlace: place, alongVelocity: speed}[kind])
		return low.Cmp(x) <= 0 && x.Cmp(high) <= 0
	}
	var d [3]*big.Rat
	for i := range 3 {
		d[i] = new(big.Rat).Sub(place[i], rat(from[i]))
	}
	size := product(d, d) // the square of the distance
	if kind == distance {
		return signedSquare(low).Cmp(size) <= 0 && size.Cmp(signedSquare(high)) <= 0
	}
	// x is the speed away, times the distance.
	x := signedSquare(product(d, speed))
	return size.Sign() > 0 && x.Cmp(new(big.Rat).Mul(signedSquare(low), size)) >= 0 && x.Cmp(new(big.Rat).Mul(signedSquare(high), size)) <= 0
}

// surelyAgrees reports whether a point agrees with a measurement for one of some From and Dir; if not, it may agree for others.
func surelyAgrees(p, v [3]api.Num, m api.Radio) bool {
	s := sample{uint64(m.Value.Lo)}
	for try := range 12 {
		from, dir := ends(m.From, try == 1), ends(m.Dir, try == 1)
		if try > 1 {
			for i := range 3 {
				from[i], dir[i] = s.in(m.From[i]), s.in(m.Dir[i])
			}
		}
		if isReading(p, v, m.Kind, from, dir, m.Value) {
			return true
		}
	}
	return false
}

// has reports whether a state has a point.
func has(s api.State, p, v [3]api.Num) bool {
	for i := range 3 {
		if !span.In(s.P[i], p[i]) || !span.In(s.V[i], v[i]) {
			return false
		}
	}
	return true
}

// TestCutKeepsTheTruth: P6.8, P0.2, and what a cut returns is within what there was.
func TestCutKeepsTheTruth(t *testing.T) {
	s := sample{3}
	var kept [4]int
	for range 16000 {
		sc := s.scene(1, 20)
		got, e := nav.Cut(sc.s, sc.l[0])
		if e == api.OK && !isPart(got, sc.s) {
			t.Errorf("%v is cut by %v to %v", sc.s, sc.l[0], got)
		}
		if !surelyAgrees(sc.p, sc.v, sc.l[0]) {
			continue
		}
		if e == api.ErrNone || e == api.OK && !has(got, sc.p, sc.v) {
			t.Errorf("%v, %v agrees with %v, but %v is cut to %v, error %d", sc.p, sc.v, sc.l[0], sc.s, got, e)
		}
		if e == api.OK && got != sc.s {
			kept[sc.l[0].Kind]++
		}
	}
	for kind, n := range kept {
		if n < 500 {
			t.Errorf("kind %d: only %d cuts of what agrees", kind, n)
		}
	}
}

// TestAgreesWithPoints: P6.1. A verdict holds for all points of a state.
func TestAgreesWithPoints(t *testing.T) {
	s := sample{4}
	verdicts := map[int]int{}
	for range 10000 {
		sc := s.scene(1, 2)
		m := sc.l[0]
		verdict := nav.Agrees(sc.s, m)
		verdicts[verdict]++
		var p, v [3]api.Num
		for i := range 3 {
			p[i], v[i] = s.in(sc.s.P[i]), s.in(sc.s.V[i])
		}
		if is := surelyAgrees(p, v, m); verdict == 1 && !is || verdict == -1 && is {
			t.Errorf("the verdict of %v, %v is %d, but a point agrees: %v", sc.s, m, verdict, is)
		}
	}
	for verdict := -1; verdict <= 1; verdict++ {
		if verdicts[verdict] < 300 {
			t.Errorf("only %d verdicts %d", verdicts[verdict], verdict)
		}
	}
}

// TestFuseKeepsTheTruth: P6.8. So do Fuse and, with wrong measurements, Trust; what they return is within what there was.
func TestFuseKeepsTheTruth(t *testing.T) {
	s := sample{5}
	var right [3]int
	for range 2500 {
		sc := s.scene(1+s.below(8), 5)
		wrong := 0
		for _, m := range sc.l {
			if !surelyAgrees(sc.p, sc.v, m) {
				wrong++
			}
		}
		rounds := s.below(5)
		got, _, e := nav.Fuse(sc.s, sc.l, rounds)
		if e == api.OK && !isPart(got, sc.s) {
			t.Errorf("Fuse of %v is %v", sc.s, got)
		}
		if wrong == 0 && (e != api.OK || !has(got, sc.p, sc.v)) {
			t.Errorf("%v, %v is not in %v, error %d", sc.p, sc.v, got, e)
		}
		for n := range min(2, len(sc.l)) + 1 {
			got, e := nav.Trust(sc.s, sc.l, n, rounds)
			if e == api.OK && !isPart(got, sc.s) {
				t.Errorf("Trust of %v is %v", sc.s, got)
			}
			if wrong > n {
				continue
			}
			right[n]++
			if e != api.OK || !has(got, sc.p, sc.v) {
				t.Errorf("%d are wrong: %v, %v is not in %v, error %d", wrong, sc.p, sc.v, got, e)
			}
		}
	}
	for n, count := range right {
		if count < 300 {
			t.Errorf("only %d times at most %d are wrong", count, n)
		}
	}
}

// TestMoreCutsMore: P6.8. More rounds, and more measurements behind the others in one round, leave no more; more wrong ones no less.
func TestMoreCutsMore(t *testing.T) {
	s := sample{6}
	shrunk := map[string]int{}
	less := func(what string, a api.State, e api.Errno, b api.State, lessE api.Errno) {
		t.Helper()
		if lessE == api.OK && (e != api.OK || !isPart(b, a)) {
			t.Errorf("%s: %v, error %d, is in %v, error %d", what, b, lessE, a, e)
		}
		if e != lessE || a != b {
			shrunk[what]++
		}
	}
	for range 4000 {
		sc := s.scene(1+s.below(8), 4+s.below(40))
		rounds := s.below(6)
		a, _, e := nav.Fuse(sc.s, sc.l, rounds)
		b, _, moreE := nav.Fuse(sc.s, sc.l, rounds+1+s.below(4))
		less("more rounds", a, e, b, moreE)
		a, _, e = nav.Fuse(sc.s, sc.l[:s.below(len(sc.l))], 1)
		b, _, moreE = nav.Fuse(sc.s, sc.l, 1)
		less("more measurements", a, e, b, moreE)
		for wrong := range min(2, len(sc.l)) {
			a, e = nav.Trust(sc.s, sc.l, wrong+1, rounds)
			b, moreE = nav.Trust(sc.s, sc.l, wrong, rounds)
			less("fewer wrong ones", a, e, b, moreE)
		}
	}
	for _, what := range []string{"more rounds", "more measurements", "fewer wrong ones"} {
		if shrunk[what] < 300 {
			t.Errorf("%s: only %d times something changes", what, shrunk[what])
		}
	}
}

// TestWildArguments: P0.1. No argument makes a function panic, or go on for ever, and with an error there are no results.
func TestWildArguments(t *testing.T) {
	s := sample{7}
	edges := []api.Num{noNumber, -api.MostNum, -huge * api.One, -api.One, -1, 0, 1, api.One, huge * api.One, api.MostNum}
	num := func() api.Num { return edges[s.below(len(edges))] }
	wild := func() api.Span {
		a, b := num(), num()
		if s.below(40) > 0 {
			a, b = max(min(a, b), -api.MostNum), max(a, b, -api.MostNum)
		}
		return api.Span{Lo: a, Hi: b}
	}
	box := func() api.Box { return api.Box{wild(), wild(), wild()} }
	kinds := []int{-1 << 63, -1, 0, 1, 2, 3, 4, 0, 1, 2, 3, 0, 1, 2, 3, 0, 1, 2, 3, 0, 1, 2, 3, 0, 1, 2, 3}
	counts := []int{-1 << 63, -1, 0, 1, 2, 3, 16, 17, 1<<63 - 1}
	seen := map[api.Errno]int{}
	check := func(what string, e api.Errno, none bool) {
		seen[e]++
		if e != api.OK && !none {
			t.Errorf("%s has results with the error %d", what, e)
		}
	}
	for range 30000 {
		st := api.State{T: num(), P: box(), V: box(), M: api.Span{Lo: 1, Hi: num()}}
		l := make([]api.Radio, s.below(5))
		for i := range l {
			l[i] = api.Radio{Kind: kinds[s.below(len(kinds))], From: box(), Dir: box(), Value: wild()}
		}
		if len(l) > 0 {
			m := l[0]
			a, e := nav.Reading(st, m)
			check("Reading", e, a == api.Span{})
			if v := nav.Agrees(st, m); e != api.OK && v != 0 || v < -1 || v > 1 {
				t.Errorf("Agrees is %d", v)
			}
			cut, e := nav.Cut(st, m)
			check("Cut", e, cut == api.State{})
		}
		rounds := counts[s.below(len(counts))]
		f, n, e := nav.Fuse(st, l, rounds)
		check("Fuse", e, f == api.State{} && n == 0)
		f, e = nav.Trust(st, l, counts[s.below(len(counts))], rounds)
		check("Trust", e, f == api.State{})
		who, e := nav.Suspects(st, l, rounds)
		check("Suspects", e, len(who) == 0)
		p := api.Planet{Mu: api.Span{Hi: max(0, num())}, Radius: api.Span{Hi: max(0, num())}, Oblate: wild(), Spin: wild(), Pull: box()}
		acc, h := box(), num()
		next, e := nav.Predict(p, st, acc, h)
		check("Predict", e, next == api.State{})
		states, at, e := nav.Follow(p, st, []api.Update{{H: h, Acc: acc}, {H: num(), Acc: box(), Heard: l}}, rounds)
		check("Follow", e, len(states) == at)
	}
	for _, e := range []api.Errno{api.OK, api.ErrArg, api.ErrRange, api.ErrNone} {
		if seen[e] < 100 {
			t.Errorf("only %d results with the error %d", seen[e], e)
		}
	}
}
