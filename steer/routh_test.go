package steer_test

import (
	"math/big"
	"slices"
	"testing"

	"ullage/api"
	"ullage/span"
	"ullage/steer"
)

// wrongPolynomials are polynomials that are not valid: each has one fault.
func wrongPolynomials() [][]api.Span {
	l := [][]api.Span{
		nil, {}, points(1), points(0, 1), points(-1, 1), {ints(0, 1), whole(1)}, {ints(-1, 1), whole(1)},
		{all(), whole(1)}, {point(-1), whole(1)}, slices.Repeat(points(1), api.MaxDegree+2),
	}
	for _, w := range wrongSpans() {
		l = append(l, []api.Span{w, whole(1)}, []api.Span{whole(1), w}, []api.Span{whole(1), whole(1), w, whole(1)})
	}
	return append(l, []api.Span{{Lo: 2, Hi: 1}, whole(1)})
}

// TestWrongPolynomials: P5.3, P5.4.
func TestWrongPolynomials(t *testing.T) {
	good := points(1, 2, 1)
	for _, w := range wrongPolynomials() {
		n, e := steer.Routh(w)
		want(t, "Routh of a wrong polynomial", n, e, 0, api.ErrArg)
		n, e = steer.Robust(w)
		want(t, "Robust of a wrong polynomial", n, e, 0, api.ErrArg)
		c, e := steer.Corners(w)
		if c[0] != nil || c[1] != nil || c[2] != nil || c[3] != nil || e != api.ErrArg {
			t.Errorf("Corners of %v: %v, error %d", w, c, e)
		}
		n, e = steer.Margin(w, good, 1)
		want(t, "Margin of a wrong polynomial", n, e, 0, api.ErrArg)
		n, e = steer.Margin(slices.Repeat(points(1), api.MaxDegree+1), w, 1)
		want(t, "Margin of a wrong second polynomial", n, e, 0, api.ErrArg)
	}
	for _, most := range []int{-1, api.MaxEdge + 1, -1 << 63, 1<<63 - 1} {
		n, e := steer.Margin(good, good, most)
		want(t, "Margin of a wrong number", n, e, 0, api.ErrArg)
	}
	n, e := steer.Margin(points(1, 1), good, 0)
	want(t, "Margin of a second polynomial that is longer", n, e, 0, api.ErrArg)
}

// routhByBook is what Routh's array shows, line by line as the chapter has it.
func routhByBook(p []api.Span) int {
	rows := [][]api.Span{nil, nil}
	for i, a := range p {
		rows[i%2] = append(rows[i%2], a)
	}
	at := func(k, j int) api.Span {
		if j < len(rows[k]) {
			return rows[k][j]
		}
		return api.Span{}
	}
	for k := range p {
		if k == len(rows) {
			var b book
			var row []api.Span
			for j := range len(rows[k-2]) - 1 {
				row = append(row, b.div(b.sub(b.mul(at(k-1, 0), at(k-2, j+1)), b.mul(at(k-2, 0), at(k-1, j+1))), at(k-1, 0)))
			}
			if b.e != api.OK {
				return 0
			}
			rows = append(rows, row)
		}
		if first := at(k, 0); first.Hi < 0 {
			return -1
		} else if first.Lo <= 0 {
			return 0
		}
	}
	return 1
}

// TestRouth: P5.3.
func TestRouth(t *testing.T) {
	const big = 1 << 16
	for _, c := range []struct {
		p    []api.Span
		want int
	}{
		{points(1, 3, 2), 1},
		{points(1, -3, 2), -1},
		{points(1, 0, 1), 0},
		{points(1, 2, 3, 1), 1},
		{points(1, 1, 1, 6), -1},
		{points(2, 1), 1},
		{points(2, -1), -1},
		{points(2, 0), 0},
		{points(1, 8, 28, 56, 70, 56, 28, 8, 1), 1}, // (s + 1) to the power of 8
		{points(1, -8, 28, -56, 70, -56, 28, -8, 1), -1},
		{points(1, 8, 28, 56, 70, 56, 28, 8, -1), -1},
		{points(1, 8, 28, 56, 70, 56, 28, 8, 0), 0},
		{points(1, 1, 1, 1), 0}, // row 2 begins with 0
		{[]api.Span{whole(1), ints(1, 2), whole(1)}, 1},
		{[]api.Span{whole(1), ints(0, 1), whole(1)}, 0},
		{[]api.Span{whole(1), ints(-1, 0), whole(1)}, 0},
		{[]api.Span{whole(1), ints(-2, -1), whole(1)}, -1},
		{[]api.Span{whole(1), whole(1), ints(1, 3), ints(1, 3)}, 0},
		{[]api.Span{point(1), point(1)}, 1},
		{[]api.Span{point(1), point(-1)}, -1},
		{[]api.Span{point(1), {Lo: -1}}, 0},
		// The array ends behind a row whose first element has 0, whatever would come.
		{points(1, 0, -1), 0},
		{[]api.Span{whole(1), ints(-1, 1), whole(-1)}, 0},
		{[]api.Span{whole(1), ints(0, 1), whole(-1)}, 0},
		{points(1, 1, 1, 1, -5), 0},
		// It ends before an error: row 1 is known, row 2 is not.
		{points(1, big, big), 0},
		{points(1, -big, big), -1},
		{points(1, big, -big), 0},
		// Of row 2 only the second element has an error: the row can't be made.
		{points(1, 4, -1, 0, 1<<30), 0},
		{points(1, 4, -1, 0, 1<<28), -1},
	} {
		n, e := steer.Routh(c.p)
		want(t, "Routh", n, e, c.want, api.OK)
	}
}

// shape returns a polynomial with spans that are around the coefficients of a product of factors, up to a degree.
func (s *sample) shape(degree int, wide api.Num) []api.Span {
	p := []int{1}
	for len(p) <= degree {
		if len(p) < degree && s.below(2) == 0 {
			p = product(p, []int{1, s.below(9) - 1, s.below(9) - 1})
		} else {
			p = product(p, []int{1, s.below(9) - 1})
		}
	}
	var l []api.Span
	for i, n := range p {
		by := api.Num(s.next() % uint64(wide+1))
		a := api.Span{Lo: api.Num(n)*api.One - by, Hi: api.Num(n)*api.One + by}
		if i == 0 {
			a.Lo = max(1, a.Lo)
		}
		l = append(l, a)
	}
	return l
}

// product returns the product of two polynomials.
func product(p, q []int) []int {
	l := make([]int, len(p)+len(q)-1)
	for i, m := range p {
		for j, n := range q {
			l[i+j] += m * n
		}
	}
	return l
}

// isStable reports whether all roots of a polynomial have a negative real part, by exact numbers. The first coefficient has to be above 0.
func isStable(p []*big.Rat) bool {
	rows := [][]*big.Rat{nil, nil}
	for i, a := range p {
		rows[i%2] = append(rows[i%2], a)
	}
	for range p {
		upper, lower := rows[0], rows[1]
		if upper[0].Sign() <= 0 {
			return false
		}
		if len(lower) == 0 {
			return true
		}
		if lower[0].Sign() <= 0 {
			return false
		}
		q := new(big.Rat).Quo(upper[0], lower[0])
		var next []*big.Rat
		for j, a := range upper[1:] {
			x := new(big.Rat).Set(a)
			if j+1 < len(lower) {
				x.Sub(x, new(big.Rat).Mul(q, lower[j+1]))
			}
			next = append(next, x)
		}
		rows = [][]*big.Rat{lower, next}
	}
	return true
}

// polynomial returns a polynomial of those that spans stand for.
func (s *sample) polynomial(p []api.Span) []*big.Rat {
	var l []*big.Rat
	for _, a := range p {
		l = append(l, rat(s.in(a)))
	}
	return l
}

// TestRouthByBook: P5.3; P5.10, by exact polynomials in the spans.
func TestRouthByBook(t *testing.T) {
	s := sample{5}
	count := map[int]int{}
	for range 6000 {
		p := s.shape(1+s.below(api.MaxDegree), api.One>>s.below(32))
		if s.below(8) == 0 {
			p[1+s.below(len(p)-1)] = s.any(api.MostNum >> s.below(32))
		}
		before := slices.Clone(p)
		n, e := steer.Routh(p)
		want(t, "Routh", n, e, routhByBook(p), api.OK)
		wantList(t, "the polynomial", p, api.OK, before, api.OK)
		count[n]++
		for range 4 {
			x := s.polynomial(p)
			if is := isStable(x); n == 1 && !is || n == -1 && is {
				t.Errorf("Routh(%v) is %d, but of %v in it that is not so", p, n, x)
			}
		}
	}
	if count[1] < 500 || count[0] < 500 || count[-1] < 500 {
		t.Errorf("the counts are %v", count)
	}
}

// TestRouthOfFactors: P5.10.
func TestRouthOfFactors(t *testing.T) {
	s := sample{6}
	count := map[int]int{}
	for range 6000 {
		degree, from := 1+s.below(api.MaxDegree), s.below(2)
		p, positive := []int{1}, true
		for len(p) <= degree {
			q := []int{1, s.below(4) + from}
			if len(p) < degree && s.below(2) == 0 {
				q = append(q, s.below(4)+from)
			}
			positive = positive && !slices.Contains(q, 0)
			if s.below(12) == 0 {
				q[1], positive = -q[1], false
			}
			p = product(p, q)
		}
		n, e := steer.Routh(points(p...))
		if e != api.OK || n == 1 && !positive || n == -1 && positive {
			t.Errorf("Routh(%v) is %d, error %d; all factors above 0: %v", p, n, e, positive)
		}
		count[n]++
	}
	if count[1] < 500 || count[0] < 500 || count[-1] < 500 {
		t.Errorf("the counts are %v", count)
	}
}

// TestCorners: P5.4.
func TestCorners(t *testing.T) {
	c, e := steer.Corners([]api.Span{ints(1, 2), ints(3, 4), ints(5, 6), ints(7, 8), ints(9, 10), ints(11, 12)})
	wanted := [4][]api.Span{points(1, 3, 6, 8, 9, 11), points(2, 4, 5, 7, 10, 12), points(2, 3, 5, 8, 10, 11), points(1, 4, 6, 7, 9, 12)}
	for i := range c {
		wantList(t, "a corner", c[i], e, wanted[i], api.OK)
	}
	s := sample{7}
	for range 300 {
		p := s.shape(1+s.below(api.MaxDegree), api.One)
		before := slices.Clone(p)
		c, e := steer.Corners(p)
		for i, ends := range []string{"LLHH", "HHLL", "LHHL", "HLLH"} {
			wanted := slices.Clone(p)
			for power := range p {
				j := len(p) - 1 - power
				if ends[power%4] == 'L' {
					wanted[j].Hi = p[j].Lo
				} else {
					wanted[j].Lo = p[j].Hi
				}
			}
			wantList(t, "a corner", c[i], e, wanted, api.OK)
			c[i][0] = api.Span{} // P5.9: nothing else changes
		}
		wantList(t, "the polynomial", p, api.OK, before, api.OK)
	}
}

// TestRobust: P5.4; P5.10.
func TestRobust(t *testing.T) {
	for _, c := range []struct {
		p    []api.Span
		want int
	}{
		{[]api.Span{whole(1), ints(1, 2), whole(1)}, 1},
		{[]api.Span{whole(1), ints(-2, -1), whole(1)}, -1},
		{[]api.Span{whole(1), ints(-1, 1), whole(1)}, -1},
		{[]api.Span{whole(1), ints(0, 1), whole(1)}, 0},
		{[]api.Span{ints(1, 2), ints(1, 2)}, 1},
		{[]api.Span{ints(1, 2), ints(0, 2)}, 0},
		{[]api.Span{ints(1, 2), ints(-1, 2)}, -1},
	} {
		n, e := steer.Robust(c.p)
		want(t, "Robust", n, e, c.want, api.OK)
	}
	// Routh's array of spans does not show this, but the corners do.
	p := []api.Span{whole(1), ints(2, 3), whole(6), ints(3, 4), ints(2, 4)}
	n, e := steer.Routh(p)
	want(t, "Routh", n, e, 0, api.OK)
	n, e = steer.Robust(p)
	want(t, "Robust", n, e, 1, api.OK)
	s := sample{8}
	count := map[int]int{}
	for range 4000 {
		p := s.shape(1+s.below(api.MaxDegree), api.One>>s.below(32))
		before := slices.Clone(p)
		n, e := steer.Robust(p)
		c, _ := steer.Corners(p)
		want(t, "Robust", n, e, combined(c), api.OK)
		wantList(t, "the polynomial", p, api.OK, before, api.OK)
		count[n]++
		for range 4 {
			if x := s.polynomial(p); n == 1 && !isStable(x) {
				t.Errorf("Robust(%v) is 1, but %v in it is not stable", p, x)
			}
		}
		if n == -1 && allStable(c) {
			t.Errorf("Robust(%v) is -1, but all corners are stable", p)
		}
		narrow := slices.Clone(p)
		for i, a := range p {
			narrow[i] = s.part(a)
		}
		if m, e := steer.Robust(narrow); e != api.OK || n == 1 && m == -1 {
			t.Errorf("Robust(%v) is 1, but that of %v is %d, error %d", p, narrow, m, e)
		}
	}
	if count[1] < 300 || count[0] < 30 || count[-1] < 300 {
		t.Errorf("the counts are %v", count)
	}
}

// combined is what four corners show.
func combined(corners [4][]api.Span) int {
	var l []int
	for _, c := range corners {
		l = append(l, routhByBook(c))
	}
	if slices.Contains(l, -1) {
		return -1
	}
	return slices.Min(l)
}

// allStable reports whether four corners are stable.
func allStable(corners [4][]api.Span) bool {
	for _, c := range corners {
		var l []*big.Rat
		for _, a := range c {
			l = append(l, rat(a.Lo))
		}
		if !isStable(l) {
			return false
		}
	}
	return true
}

// marginByBook is how far a gain may be from 1, line by line as the chapter has it.
func marginByBook(p, q []api.Span, most int) int {
	for m := range most + 1 {
		low, _ := span.Ratio(64-m, 64)
		high, _ := span.Ratio(64+m, 64)
		k := api.Span{Lo: low.Lo, Hi: high.Hi}
		var b book
		sum := slices.Clone(p)
		for power := range q {
			i, j := len(p)-1-power, len(q)-1-power
			sum[i] = b.add(p[i], b.mul(k, q[j]))
		}
		if b.e != api.OK {
			return m - 1
		}
		if n, e := steer.Robust(sum); n != 1 || e != api.OK {
			return m - 1
		}
	}
	return most
}

// TestMargin: P5.4.
func TestMargin(t *testing.T) {
	const far = 3 << 29
	for _, c := range []struct {
		p, q       []api.Span
		most, want int
	}{
		{points(1, 1, 0), points(1, 1), 64, 63},
		{points(1, 1, 0), points(1, 1), 63, 63},
		{points(1, 1, 0), points(1, 1), 62, 62},
		{points(1, 1, 0), points(1, 1), 1, 1},
		{points(1, 1, 0), points(1, 1), 0, 0},
		{points(1, 1, 1), points(1, 1), 64, 64},
		{points(1, 1, 0), points(1, -1), 64, -1},
		{points(1, 1, 0), points(1, -1), 0, -1},
		{points(1, 1, 0), points(1, 0), 64, -1}, // neither stable nor not
		{points(1, 3, 0), points(1, -2, 1), 64, 31},
		{points(1, -1), points(1, 2), 64, 31},
		{points(1, -1), points(1, 2), 31, 31},
		{points(1, -1), points(1, 2), 30, 30},
		{[]api.Span{whole(1), ints(-1, 0)}, []api.Span{ints(1, 2), ints(2, 3)}, 64, 31},
		// Behind a gain of 4/3 a coefficient is too great: first the product, then only the sum.
		{points(1, 1), points(1, far), 64, 21},
		{points(1, 1<<30), points(1, far/2), 64, 21},
		{points(1, 1), []api.Span{whole(1), ints(1, far)}, 64, 21},
		{points(1, 1), []api.Span{ints(1, far), whole(1)}, 64, 21},
		{[]api.Span{whole(1), point(api.MostNum)}, points(1, 1), 64, -1},
	} {
		n, e := steer.Margin(c.p, c.q, c.most)
		want(t, "Margin", n, e, c.want, api.OK)
	}
}

// TestMarginByBook: P5.4; P5.10, by exact polynomials and gains.
func TestMarginByBook(t *testing.T) {
	s := sample{9}
	count := [3]int{}
	for range 600 {
		degree := 1 + s.below(api.MaxDegree)
		p, q := s.shape(degree, api.One>>s.below(32)), s.shape(1+s.below(degree), api.One>>s.below(32))
		beforeP, beforeQ, most := slices.Clone(p), slices.Clone(q), s.below(api.MaxEdge+1)
		n, e := steer.Margin(p, q, most)
		want(t, "Margin", n, e, marginByBook(p, q, most), api.OK)
		if !slices.Equal(p, beforeP) || !slices.Equal(q, beforeQ) {
			t.Fatal("Margin changes its arguments")
		}
		switch n {
		case -1:
			count[0]++
		case most:
			count[1]++
		default:
			count[2]++
		}
		for range 4 {
			if n < 0 {
				break
			}
			k := rat(api.One + api.Num(s.below(2*n+1)-n)*api.One/64)
			x, y := s.polynomial(p), s.polynomial(q)
			for i, a := range y {
				j := len(x) - len(y) + i
				x[j] = new(big.Rat).Add(x[j], new(big.Rat).Mul(k, a))
			}
			if !isStable(x) {
				t.Errorf("the margin of %v, %v is %d, but with the gain %v that is not stable", p, q, n, k)
			}
		}
	}
	if slices.Min(count[:]) < 30 {
		t.Errorf("the counts are %v", count)
	}
}
