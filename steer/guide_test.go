package steer_test

import (
	"math/big"
	"testing"

	"ullage/api"
	"ullage/span"
	"ullage/steer"
)

// lawByBook is the law, line by line as the chapter has it.
func lawByBook(h, v, to, at api.Span, time api.Num) (two, api.Errno) {
	var b book
	t := point(time)
	d := b.sub(b.sub(to, h), b.mul(v, t))
	s := b.sub(at, v)
	y := b.div(b.div(d, t), t)
	z := b.div(s, t)
	c0 := b.sub(b.scale(y, 6), b.scale(z, 2))
	c1 := b.sub(b.scale(b.div(z, t), 6), b.scale(b.div(y, t), 12))
	return b.two(c0, c1)
}

// dueByBook is what is due, line by line as the chapter has it.
func dueByBook(h, v, c0, c1 api.Span, time api.Num) (two, api.Errno) {
	var b book
	t := point(time)
	s := b.mul(t, t)
	place := b.add(b.add(b.add(h, b.mul(v, t)), b.div(b.mul(c0, s), whole(2))), b.div(b.mul(b.mul(c1, s), t), whole(6)))
	speed := b.add(b.add(v, b.mul(c0, t)), b.div(b.mul(c1, s), whole(2)))
	return b.two(place, speed)
}

// TestLawAndDue: P5.5, by numbers.
func TestLawAndDue(t *testing.T) {
	zero, six := whole(0), whole(6)
	c0, c1, e := steer.Law(zero, zero, six, zero, api.One)
	wantTwo(t, "Law", c0, c1, e, two{whole(36), whole(-72)}, api.OK)
	place, speed, e := steer.Due(zero, zero, c0, c1, api.One)
	wantTwo(t, "Due", place, speed, e, two{six, zero}, api.OK)
	// At 3 + 2 t + 5 t² / 2 + 7 t³ / 6, with the speed 2 + 5 t + 7 t² / 2.
	half := point(api.One / 2)
	place, speed, e = steer.Due(whole(3), whole(2), whole(5), whole(12), 2*api.One)
	wantTwo(t, "Due", place, speed, e, two{whole(33), whole(36)}, api.OK)
	c0, c1, e = steer.Law(whole(3), whole(2), whole(33), whole(36), 2*api.One)
	wantTwo(t, "Law", c0, c1, e, two{whole(5), whole(12)}, api.OK)
	place, speed, e = steer.Due(ints(1, 2), ints(-1, 1), ints(0, 2), ints(-6, 6), 2*api.One)
	wantTwo(t, "Due of spans", place, speed, e, two{ints(-9, 16), ints(-13, 17)}, api.OK)
	c0, c1, e = steer.Law(ints(0, 1), zero, ints(2, 3), half, api.One)
	wantTwo(t, "Law of spans", c0, c1, e, two{ints(5, 17), ints(-33, -9)}, api.OK)
}

// times are those of laws that are valid, and of such that are not.
func times() (good, bad []api.Num) {
	return []api.Num{1, api.One, 7*api.One + 3, api.MostNum}, []api.Num{0, -1, -api.One, -api.MostNum, noNumber}
}

// TestGuidanceErrors: P5.5, R1, R2.
func TestGuidanceErrors(t *testing.T) {
	good, bad := times()
	for _, time := range append(good, bad...) {
		for _, w := range wrongSpans() {
			for i := range 4 {
				a := []api.Span{all(), all(), all(), all()}
				a[i] = w
				c0, c1, e := steer.Law(a[0], a[1], a[2], a[3], time)
				wantTwo(t, "Law of a wrong span", c0, c1, e, two{}, api.ErrArg)
				place, speed, e := steer.Due(a[0], a[1], a[2], a[3], time)
				wantTwo(t, "Due of a wrong span", place, speed, e, two{}, api.ErrArg)
			}
		}
	}
	for _, time := range bad {
		for _, a := range []api.Span{{}, all()} {
			c0, c1, e := steer.Law(a, a, a, a, time)
			wantTwo(t, "Law of a wrong time", c0, c1, e, two{}, api.ErrArg)
			place, speed, e := steer.Due(a, a, a, a, time)
			wantTwo(t, "Due of a wrong time", place, speed, e, two{}, api.ErrArg)
		}
	}
	var zero api.Span
	one, most := whole(1), point(api.MostNum)
	for _, c := range []struct {
		h, v, to, at api.Span
		time         api.Num
	}{
		{point(-api.MostNum), zero, one, zero, api.One}, // to - h
		{zero, one, zero, zero, api.MostNum},            // 6 z is too great, by d
		{zero, most, zero, zero, 2 * api.One},           // v T
		{zero, most, zero, point(-1), api.One},          // at - v
		{zero, zero, most, zero, api.One / 2},           // d / T
		{zero, zero, most, zero, api.One},               // 6 y
		{zero, zero, point(api.MostNum / 2), zero, api.One * 2 / 3},
		{zero, zero, zero, point(api.MostNum / 2), api.One / 4},
		{zero, zero, whole(1 << 26), zero, api.One / 2}, // y / T is scaled by 12
		{zero, one, one, one, 1},                        // nothing is left of d, but s is 0, too: no error
	} {
		wanted, wantedE := lawByBook(c.h, c.v, c.to, c.at, c.time)
		c0, c1, e := steer.Law(c.h, c.v, c.to, c.at, c.time)
		wantTwo(t, "Law", c0, c1, e, wanted, wantedE)
	}
	place, speed, e := steer.Due(zero, zero, zero, zero, 1<<48)
	wantTwo(t, "Due of a time whose square is too great", place, speed, e, two{}, api.ErrRange)
	place, speed, e = steer.Due(zero, most, zero, zero, api.One)
	wantTwo(t, "Due of a great speed", place, speed, e, two{most, most}, api.OK)
	place, speed, e = steer.Due(point(1), most, zero, zero, api.One)
	wantTwo(t, "Due at a great place", place, speed, e, two{}, api.ErrRange)
	place, speed, e = steer.Due(zero, most, point(1), zero, api.One)
	wantTwo(t, "Due at a great speed", place, speed, e, two{}, api.ErrRange)
}

// TestGuidanceByBook: P5.5, bit by bit.
func TestGuidanceByBook(t *testing.T) {
	s := sample{10}
	good := [2]int{}
	for range 6000 {
		size := api.MostNum >> s.below(36)
		h, v, to, at := s.any(size), s.any(size), s.any(size), s.any(size)
		time := 1 + s.in(api.Span{Hi: api.MostNum>>s.below(44) - 1})
		wanted, wantedE := lawByBook(h, v, to, at, time)
		c0, c1, e := steer.Law(h, v, to, at, time)
		wantTwo(t, "Law", c0, c1, e, wanted, wantedE)
		if e == api.OK {
			good[0]++
		}
		wanted, wantedE = dueByBook(h, v, to, at, time)
		place, speed, e := steer.Due(h, v, to, at, time)
		wantTwo(t, "Due", place, speed, e, wanted, wantedE)
		if e == api.OK {
			good[1]++
		}
	}
	if min(good[0], good[1]) < 1000 || max(good[0], good[1]) > 5500 {
		t.Errorf("of laws, and of what is due, %v have no error", good)
	}
}

// TestLawIsDue: P5.10: what is due contains what is aimed at. The acceleration is checked against exact numbers.
func TestLawIsDue(t *testing.T) {
	s := sample{11}
	good := 0
	for range 4000 {
		size := api.One << s.below(16)
		h, v, to, at := s.any(size), s.any(size), s.any(size), s.any(size)
		time := api.One/16 + s.in(api.Span{Hi: 64 * api.One})
		c0, c1, e := steer.Law(h, v, to, at, time)
		if e != api.OK {
			continue
		}
		x0, x1 := exactLaw(s.in(h), s.in(v), s.in(to), s.in(at), time)
		if !inside(c0, x0) || !inside(c1, x1) {
			t.Errorf("Law(%v, %v, %v, %v, %d) is %v, %v, without %v, %v", h, v, to, at, time, c0, c1, x0, x1)
		}
		place, speed, e := steer.Due(h, v, c0, c1, time)
		if e != api.OK {
			continue
		}
		good++
		if !span.Within(to, place) || !span.Within(at, speed) {
			t.Errorf("%v, %v are due, not %v, %v", place, speed, to, at)
		}
	}
	if good < 2000 {
		t.Errorf("only %d are due", good)
	}
}

// exactLaw returns the acceleration that brings a height with a speed to others.
func exactLaw(h, v, to, at, time api.Num) (c0, c1 *big.Rat) {
	add := func(x, y *big.Rat, n int64) *big.Rat {
		return new(big.Rat).Add(x, new(big.Rat).Mul(y, big.NewRat(n, 1)))
	}
	t := rat(time)
	d := add(rat(to), rat(h), -1)
	d = add(d, new(big.Rat).Mul(rat(v), t), -1)
	s := add(rat(at), rat(v), -1)
	y := new(big.Rat).Quo(d, new(big.Rat).Mul(t, t))
	z := new(big.Rat).Quo(s, t)
	c0 = add(add(new(big.Rat), y, 6), z, -2)
	c1 = add(add(new(big.Rat), z, 6), y, -12)
	return c0, c1.Quo(c1, t)
}

// liftByBook is a speed, line by line as the chapter has it.
func liftByBook(v, push, pull api.Span, time api.Num, t api.Span) (api.Span, api.Errno) {
	_, s, e := span.Turn(t)
	if e != api.OK {
		return api.Span{}, e
	}
	var b book
	speed := b.add(v, b.mul(b.sub(b.mul(push, s), pull), point(time)))
	if b.e != api.OK {
		return api.Span{}, b.e
	}
	return speed, api.OK
}

// TestLift: P5.6.
func TestLift(t *testing.T) {
	var zero api.Span
	for _, c := range []struct {
		v, push, pull api.Span
		time          api.Num
		t, want       api.Span
		e             api.Errno
	}{
		{whole(1), whole(5), whole(2), 2 * api.One, whole(1), whole(7), api.OK},
		{whole(1), whole(5), whole(2), 2 * api.One, whole(-1), whole(-13), api.OK},
		{whole(1), whole(5), whole(2), 2 * api.One, zero, whole(-3), api.OK},
		{whole(1), ints(5, 6), ints(-1, 2), api.One, ints(-1, 1), ints(-7, 8), api.OK},
		{ints(1, 2), whole(5), whole(2), 0, ints(-1, 1), ints(1, 2), api.OK},
		{whole(1), zero, whole(-2), api.One, ints(-1, 1), whole(3), api.OK},
		{zero, whole(1), zero, api.One, api.Span{Lo: -api.One, Hi: api.One + 1}, zero, api.ErrRange},
		{zero, whole(1), zero, api.One, api.Span{Lo: -api.One - 1, Hi: api.One}, zero, api.ErrRange},
		{zero, whole(1), zero, 0, whole(2), zero, api.ErrRange},
		{point(1), point(api.MostNum), zero, api.One, whole(1), zero, api.ErrRange},
		{zero, point(api.MostNum), point(-1), api.One, whole(1), zero, api.ErrRange},
		{zero, point(api.MostNum), zero, api.One + 1, whole(1), zero, api.ErrRange},
		{zero, point(api.MostNum), zero, api.One, whole(1), point(api.MostNum), api.OK},
		{zero, api.Span{Lo: -1}, zero, api.One, zero, zero, api.ErrArg},
		{zero, whole(-1), zero, api.One, whole(2), zero, api.ErrArg},
		{zero, zero, zero, -1, zero, zero, api.ErrArg},
		{zero, zero, zero, noNumber, zero, zero, api.ErrArg},
		{zero, zero, zero, -api.MostNum, whole(2), zero, api.ErrArg},
	} {
		got, e := steer.Lift(c.v, c.push, c.pull, c.time, c.t)
		want(t, "Lift", got, e, c.want, c.e)
	}
	for _, w := range wrongSpans() {
		for i := range 4 {
			a := []api.Span{all(), {Hi: api.MostNum}, all(), whole(2)}
			a[i] = w
			got, e := steer.Lift(a[0], a[1], a[2], api.One, a[3])
			want(t, "Lift of a wrong span", got, e, zero, api.ErrArg)
		}
	}
	s := sample{12}
	good := 0
	for range 5000 {
		size := api.MostNum >> s.below(36)
		v, push, pull, time, to := s.any(size), s.positive(size), s.any(size), s.in(api.Span{Hi: size}), s.any(api.One+api.Num(s.below(3)))
		wanted, wantedE := liftByBook(v, push, pull, time, to)
		got, e := steer.Lift(v, push, pull, time, to)
		want(t, "Lift", got, e, wanted, wantedE)
		if e == api.OK {
			good++
		}
	}
	if good < 1000 || good > 4800 {
		t.Errorf("%d lifts have no error", good)
	}
}

// aimed is what Aim returns.
type aimed struct {
	t    api.Span
	used int
}

// aimByBook is what is aimed at, line by line as the chapter has it.
func aimByBook(v, push, pull api.Span, time, wanted api.Num, rounds int) (aimed, api.Errno) {
	top, e := liftByBook(v, push, pull, time, whole(1))
	if e != api.OK {
		return aimed{}, e
	}
	bottom, e := liftByBook(v, push, pull, time, whole(-1))
	if e != api.OK {
		return aimed{}, e
	}
	if span.Order(top, point(wanted)) == -1 || span.Order(bottom, point(wanted)) == 1 {
		return aimed{}, api.ErrNone
	}
	a := aimed{t: ints(-1, 1)}
	for {
		if width, _ := span.Wide(a.t); a.used == rounds || width < 2 {
			return a, api.OK
		}
		a.used++
		low, high, _ := span.Split(a.t)
		speed, _ := liftByBook(v, push, pull, time, point(low.Hi))
		if speed.Hi < wanted {
			a.t = high
		} else if speed.Lo > wanted {
			a.t = low
		} else {
			return a, api.OK
		}
	}
}

// TestAim: P5.6, by numbers.
func TestAim(t *testing.T) {
	const one = api.One
	var zero api.Span
	unit := whole(1)
	for _, c := range []struct {
		v, push, pull api.Span
		time, wanted  api.Num
		rounds        int
		want          aimed
		e             api.Errno
	}{
		{zero, unit, zero, one, 0, 5, aimed{ints(-1, 1), 1}, api.OK},
		{zero, unit, zero, one, 0, 0, aimed{ints(-1, 1), 0}, api.OK},
		{zero, unit, zero, one, one * 9 / 10, 3, aimed{api.Span{Lo: one / 2, Hi: one * 3 / 4}, 3}, api.OK},
		{zero, unit, zero, one, -one * 9 / 10, 3, aimed{api.Span{Lo: -one * 3 / 4, Hi: -one / 2}, 3}, api.OK},
		// The range is 2 wide behind 32 rounds, and too narrow behind 33.
		{zero, whole(1 << 20), zero, one, 1, 32, aimed{api.Span{Hi: 2}, 32}, api.OK},
		{zero, whole(1 << 20), zero, one, 1, 33, aimed{api.Span{Hi: 1}, 33}, api.OK},
		{zero, whole(1 << 20), zero, one, 1, api.MaxRounds, aimed{api.Span{Hi: 1}, 33}, api.OK},
		{zero, whole(1 << 20), zero, one, -1, api.MaxRounds, aimed{api.Span{Lo: -1}, 33}, api.OK},
		// At 1 - 2^-15 the sine is 1 already, rounded out.
		{zero, unit, zero, one, one, api.MaxRounds, aimed{api.Span{Lo: one - 1<<17, Hi: one}, 17}, api.OK},
		// Just at both ends, and just beyond them.
		{unit, whole(4), unit, 2 * one, 7 * one, 1, aimed{ints(0, 1), 1}, api.OK},
		{unit, whole(4), unit, 2 * one, 7*one + 1, 1, aimed{}, api.ErrNone},
		{unit, whole(4), unit, 2 * one, -9 * one, 1, aimed{ints(-1, 0), 1}, api.OK},
		{unit, whole(4), unit, 2 * one, -9*one - 1, 1, aimed{}, api.ErrNone},
		{ints(0, 1), unit, zero, one, 2 * one, 1, aimed{ints(0, 1), 1}, api.OK},
		{ints(0, 1), unit, zero, one, 2*one + 1, 1, aimed{}, api.ErrNone},
		{ints(0, 1), unit, zero, one, -one, 1, aimed{ints(-1, 0), 1}, api.OK},
		{ints(0, 1), unit, zero, one, -one - 1, 1, aimed{}, api.ErrNone},
		{ints(0, 1), unit, zero, one, one, 9, aimed{ints(-1, 1), 1}, api.OK},
		{ints(0, 1), unit, zero, one, one + 1, 1, aimed{ints(0, 1), 1}, api.OK},
		{ints(0, 1), unit, zero, one, -1, 1, aimed{ints(-1, 0), 1}, api.OK},
		{unit, whole(4), unit, 0, one, 9, aimed{ints(-1, 1), 1}, api.OK},
		{unit, whole(4), unit, 0, one + 1, 9, aimed{}, api.ErrNone},
		{unit, whole(4), unit, 0, one - 1, 9, aimed{}, api.ErrNone},
		{unit, zero, zero, one, one, 9, aimed{ints(-1, 1), 1}, api.OK},
		// An error comes ahead of ErrNone: of Lift at 1, or at -1 alone.
		{point(1), point(api.MostNum), zero, one, -api.MostNum, 5, aimed{}, api.ErrRange},
		{point(-1), point(api.MostNum), zero, one, 0, 5, aimed{}, api.ErrRange},
		{point(-1), point(api.MostNum), zero, one, api.MostNum, 5, aimed{}, api.ErrRange},
		{zero, api.Span{Lo: -1}, zero, one, 0, 5, aimed{}, api.ErrArg},
		{zero, unit, zero, -1, 0, 5, aimed{}, api.ErrArg},
		{zero, unit, zero, noNumber, 0, 5, aimed{}, api.ErrArg},
		{zero, unit, zero, one, noNumber, 5, aimed{}, api.ErrArg},
		{zero, unit, zero, one, 2 * one, -1, aimed{}, api.ErrArg},
		{zero, unit, zero, one, 2 * one, api.MaxRounds + 1, aimed{}, api.ErrArg},
		{all(), unit, zero, one, 0, -1 << 63, aimed{}, api.ErrArg},
		{all(), unit, zero, one, 0, 1<<63 - 1, aimed{}, api.ErrArg},
	} {
		to, used, e := steer.Aim(c.v, c.push, c.pull, c.time, c.wanted, c.rounds)
		want(t, "Aim", aimed{to, used}, e, c.want, c.e)
	}
	for _, w := range wrongSpans() {
		for i := range 3 {
			a := []api.Span{all(), {Hi: api.MostNum}, all()}
			a[i] = w
			to, used, e := steer.Aim(a[0], a[1], a[2], one, 0, 5)
			want(t, "Aim with a wrong span", aimed{to, used}, e, aimed{}, api.ErrArg)
		}
	}
}

// exactLift returns a speed.
func exactLift(v, push, pull, time, t api.Num) *big.Rat {
	x := rat(t)
	one := big.NewRat(1, 1)
	sine := new(big.Rat).Quo(new(big.Rat).Add(x, x), new(big.Rat).Add(one, new(big.Rat).Mul(x, x)))
	force := new(big.Rat).Sub(sine.Mul(sine, rat(push)), rat(pull))
	return force.Add(force.Mul(force, rat(time)), rat(v))
}

// TestAimByBook: P5.6; P5.10, by exact speeds below and above what is returned.
func TestAimByBook(t *testing.T) {
	s := sample{13}
	count := map[api.Errno]int{}
	for range 6000 {
		size := api.MostNum >> s.below(36)
		v, push, pull, time := s.any(size), s.positive(size), s.any(size), s.in(api.Span{Hi: 4 * api.One})
		wanted, rounds := s.num(api.MostNum>>s.below(36)), s.below(api.MaxRounds+1)
		if s.below(2) == 0 {
			// Somewhere that can be reached.
			if reached, e := steer.Lift(v, push, pull, time, point(s.num(api.One))); e == api.OK {
				wanted = s.in(reached)
			}
		}
		a, aE := aimByBook(v, push, pull, time, wanted, rounds)
		to, used, e := steer.Aim(v, push, pull, time, wanted, rounds)
		want(t, "Aim", aimed{to, used}, e, a, aE)
		count[e]++
		if e != api.OK {
			continue
		}
		for range 3 {
			below, above := s.in(api.Span{Lo: -api.One, Hi: to.Lo}), s.in(api.Span{Lo: to.Hi, Hi: api.One})
			low := exactLift(s.in(v), s.in(push), s.in(pull), time, below)
			high := exactLift(s.in(v), s.in(push), s.in(pull), time, above)
			if below < to.Lo && low.Cmp(rat(wanted)) >= 0 || above > to.Hi && high.Cmp(rat(wanted)) <= 0 {
				t.Errorf("Aim at %d is %v, but at %d, %d speeds are %v, %v", wanted, to, below, above, low, high)
			}
		}
	}
	if count[api.OK] < 1000 || count[api.ErrNone] < 500 || count[api.ErrRange] < 100 {
		t.Errorf("the counts are %v", count)
	}
}
