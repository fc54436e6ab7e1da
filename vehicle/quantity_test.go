package vehicle_test

import (
	"math"
	"math/big"
	"slices"
	"testing"

	"ullage/api"
	"ullage/vehicle"
)

// allUnits are the units of the document.
func allUnits() []api.Unit {
	return []api.Unit{
		{Name: "km", Is: quantity(1, 1, 1, 0, 0)},
		{Name: "m", Is: quantity(1, 1000, 1, 0, 0)},
		{Name: "cm", Is: quantity(1, 100000, 1, 0, 0)},
		{Name: "s", Is: quantity(1, 1, 0, 1, 0)},
		{Name: "ms", Is: quantity(1, 1000, 0, 1, 0)},
		{Name: "min", Is: quantity(60, 1, 0, 1, 0)},
		{Name: "h", Is: quantity(3600, 1, 0, 1, 0)},
		{Name: "t", Is: quantity(1, 1, 0, 0, 1)},
		{Name: "kg", Is: quantity(1, 1000, 0, 0, 1)},
		{Name: "MN", Is: quantity(1, 1, 1, -2, 1)},
		{Name: "kN", Is: quantity(1, 1000, 1, -2, 1)},
		{Name: "N", Is: quantity(1, 1000000, 1, -2, 1)},
		{Name: "Pa", Is: quantity(1, 1, -1, -2, 1)},
		{Name: "kPa", Is: quantity(1000, 1, -1, -2, 1)},
	}
}

// TestUnits: P2.1.
func TestUnits(t *testing.T) {
	got := vehicle.Units()
	if !slices.Equal(got, allUnits()) {
		t.Errorf("Units() is %v", got)
	}
	for i := range got {
		got[i] = api.Unit{}
	}
	if !slices.Equal(vehicle.Units(), allUnits()) {
		t.Error("Units() returns memory that it keeps")
	}
}

// wrongQuantities are quantities that are not valid, for each reason.
func wrongQuantities() []api.Quantity {
	return []api.Quantity{
		{}, plain(0, 0), plain(1, 0), plain(1, -1), plain(-1, -1), plain(0, -1), plain(1, math.MinInt),
		plain(0, 2), plain(2, 2), plain(2, 4), plain(-3, 9), plain(1<<62, 2), plain(6, 1<<62),
		plain(1<<62+1, 1), plain(-1<<62-1, 1), plain(1<<62+1, 2), plain(math.MaxInt, 1), plain(math.MinInt, 1), plain(math.MinInt, 3),
		plain(1, 1<<62+1), plain(3, 1<<62+1), plain(1, math.MaxInt),
		quantity(1, 1, 10, 0, 0), quantity(1, 1, 0, 10, 0), quantity(1, 1, 0, 0, 10),
		quantity(1, 1, -10, 0, 0), quantity(1, 1, 0, -10, 0), quantity(1, 1, 0, 0, -10),
		quantity(0, 1, 0, 0, 10), quantity(1, 1, math.MaxInt, 0, 0), quantity(1, 1, 0, math.MinInt, 0),
	}
}

// quantities are valid ones, at which something may change, of some dimensions.
func quantities() []api.Quantity {
	nums := []int{0, 1, 2, 3, 7, 1000, 1<<31 - 1, 1 << 31, 1<<31 + 1, 1<<61 - 1, 1 << 61, 1<<62 - 3, 1<<62 - 1, 1 << 62}
	dens := []int{1, 2, 3, 10, 1<<31 - 1, 1 << 31, 1<<31 + 3, 1 << 61, 1<<62 - 1, 1 << 62}
	var out []api.Quantity
	for _, n := range nums {
		for _, d := range dens {
			if new(big.Int).GCD(nil, nil, big.NewInt(int64(n)), big.NewInt(int64(d))).Int64() == 1 {
				out = append(out, plain(n, d))
				if n != 0 {
					out = append(out, plain(-n, d))
				}
			}
		}
	}
	return append(out, quantity(1, 1, 9, 9, 9), quantity(-2, 3, -9, -9, -9), quantity(0, 1, 9, 0, 0), quantity(5, 1, 1, 0, 0),
		quantity(5, 1, 0, 1, 0), quantity(5, 1, 0, 0, 1), quantity(0, 1, 0, -9, 0), quantity(1<<62, 1, 5, -5, 0), quantity(1, 7, 4, -4, 3))
}

// TestCheckQuantity: P2.1.
func TestCheckQuantity(t *testing.T) {
	for _, q := range wrongQuantities() {
		if vehicle.CheckQuantity(q) {
			t.Errorf("%v is valid", q)
		}
	}
	for _, q := range quantities() {
		if !vehicle.CheckQuantity(q) {
			t.Errorf("%v is not valid", q)
		}
	}
	for _, u := range vehicle.Units() {
		if !vehicle.CheckQuantity(u.Is) {
			t.Errorf("%v is not valid", u)
		}
	}
}

// operation is one of the four, with what it has to be.
type operation struct {
	name  string
	call  func(a, b api.Quantity) (api.Quantity, api.Errno)
	exact func(a, b api.Quantity) (api.Quantity, api.Errno)
}

func operations() []operation {
	return []operation{
		{"Plus", vehicle.Plus, func(a, b api.Quantity) (api.Quantity, api.Errno) { return exactSum(a, b, 1) }},
		{"Minus", vehicle.Minus, func(a, b api.Quantity) (api.Quantity, api.Errno) { return exactSum(a, b, -1) }},
		{"Times", vehicle.Times, exactProduct},
		{"Over", vehicle.Over, exactQuotient},
	}
}

// isPart reports whether an integer is from -MaxRatio to MaxRatio.
func isPart(n *big.Int) bool { return n.CmpAbs(big.NewInt(api.MaxRatio)) <= 0 }

// exactSum is a + sign b, as the document describes it.
func exactSum(a, b api.Quantity, sign int64) (api.Quantity, api.Errno) {
	if a.Km != b.Km || a.S != b.S || a.T != b.T {
		return api.Quantity{}, api.ErrUnit
	}
	aDen, bDen := big.NewInt(int64(a.Den)), big.NewInt(int64(b.Den))
	g := new(big.Int).GCD(nil, nil, aDen, bDen)
	x := new(big.Int).Mul(big.NewInt(int64(a.Num)), new(big.Int).Div(bDen, g))
	y := new(big.Int).Mul(big.NewInt(int64(b.Num)), new(big.Int).Div(aDen, g))
	sum := new(big.Int).Add(x, new(big.Int).Mul(y, big.NewInt(sign)))
	den := new(big.Int).Mul(new(big.Int).Div(aDen, g), bDen)
	if !isPart(x) || !isPart(y) || !isPart(sum) || !isPart(den) {
		return api.Quantity{}, api.ErrRange
	}
	r := new(big.Rat).SetFrac(sum, den)
	return quantity(int(r.Num().Int64()), int(r.Denom().Int64()), a.Km, a.S, a.T), api.OK
}

// inLowestTerms returns a number with exponents, if that is valid.
func inLowestTerms(r *big.Rat, km, s, t int) (api.Quantity, api.Errno) {
	for _, n := range []int{km, s, t} {
		if n < -api.MaxExponent || n > api.MaxExponent {
			return api.Quantity{}, api.ErrRange
		}
	}
	if !isPart(r.Num()) || !isPart(r.Denom()) {
		return api.Quantity{}, api.ErrRange
	}
	return quantity(int(r.Num().Int64()), int(r.Denom().Int64()), km, s, t), api.OK
}

// number returns the number of a quantity.
func number(q api.Quantity) *big.Rat { return big.NewRat(int64(q.Num), int64(q.Den)) }

func exactProduct(a, b api.Quantity) (api.Quantity, api.Errno) {
	return inLowestTerms(new(big.Rat).Mul(number(a), number(b)), a.Km+b.Km, a.S+b.S, a.T+b.T)
}

func exactQuotient(a, b api.Quantity) (api.Quantity, api.Errno) {
	if b.Num == 0 {
		return api.Quantity{}, api.ErrArg
	}
	return inLowestTerms(new(big.Rat).Quo(number(a), number(b)), a.Km-b.Km, a.S-b.S, a.T-b.T)
}

// TestOperations: P2.2, each pair of quantities.
func TestOperations(t *testing.T) {
	for _, f := range operations() {
		for _, a := range quantities() {
			for _, b := range quantities() {
				q, e := f.call(a, b)
				want, wantE := f.exact(a, b)
				if q != want || e != wantE {
					t.Errorf("%s(%v, %v): %v, error %d; want %v, error %d", f.name, a, b, q, e, want, wantE)
				}
			}
		}
	}
}

// TestOperationsOfWrongQuantities: P2.2, ErrArg comes first.
func TestOperationsOfWrongQuantities(t *testing.T) {
	good := []api.Quantity{plain(0, 1), plain(1, 3), quantity(5, 1, 1, 0, 0), quantity(1<<62, 1, 9, 9, 9)}
	for _, f := range operations() {
		for _, w := range wrongQuantities() {
			for _, g := range good {
				q, e := f.call(w, g)
				wantQuantity(t, f.name+", the first one wrong", q, e, api.Quantity{}, api.ErrArg)
				q, e = f.call(g, w)
				wantQuantity(t, f.name+", the second one wrong", q, e, api.Quantity{}, api.ErrArg)
			}
		}
	}
}

// TestOperationsAtTheirLimits: P2.2, cases that tell one rule from another.
func TestOperationsAtTheirLimits(t *testing.T) {
	for _, x := range []struct {
		name string
		call func(a, b api.Quantity) (api.Quantity, api.Errno)
		a, b api.Quantity
		want api.Quantity
		e    api.Errno
	}{
		{"a sum up to the limit", vehicle.Plus, plain(1<<61, 1), plain(1<<61, 1), plain(1<<62, 1), api.OK},
		{"a sum above it", vehicle.Plus, plain(1<<61, 1), plain(1<<61+1, 1), api.Quantity{}, api.ErrRange},
		{"a sum of 64 bits", vehicle.Plus, plain(1<<62, 1), plain(1<<62, 1), api.Quantity{}, api.ErrRange},
		{"a difference of 64 bits", vehicle.Minus, plain(-1<<62, 1), plain(1<<62, 1), api.Quantity{}, api.ErrRange},
		{"a product that cancels out only behind the sum", vehicle.Plus, plain(1<<62-1, 2), plain(1, 6), api.Quantity{}, api.ErrRange},
		{"the second product alone above the limit", vehicle.Plus, plain(1, 6), plain(1<<62-1, 2), api.Quantity{}, api.ErrRange},
		{"a great common divisor", vehicle.Plus, plain(1, 1<<62), plain(1, 1<<62), plain(1, 1<<61), api.OK},
		{"divisors whose product alone is too great", vehicle.Plus, plain(0, 1), plain(1, 1<<62), plain(1, 1<<62), api.OK},
		{"divisors with nothing in common", vehicle.Minus, plain(1, 1<<31), plain(1, 1<<31+1), api.Quantity{}, api.ErrRange},
		{"nothing left", vehicle.Minus, plain(3, 7), plain(3, 7), plain(0, 1), api.OK},
		{"0 with another unit", vehicle.Plus, plain(0, 1), quantity(1, 1, 0, 0, 1), api.Quantity{}, api.ErrUnit},
		{"units ahead of ranges", vehicle.Plus, plain(1<<62, 1), quantity(1<<62, 1, 0, 1, 0), api.Quantity{}, api.ErrUnit},
		{"a product that cancels out", vehicle.Times, plain(1<<62, 3), plain(9, 1<<60), plain(12, 1), api.OK},
		{"a product above the limit", vehicle.Times, plain(1<<31, 1), plain(1<<31+1, 1), api.Quantity{}, api.ErrRange},
		{"a product at the limit", vehicle.Times, plain(-1<<31, 1), plain(1<<31, 1), plain(-1<<62, 1), api.OK},
		{"a divisor above the limit", vehicle.Times, plain(1, 1<<31), plain(1, 1<<31+1), api.Quantity{}, api.ErrRange},
		{"0 with a great exponent", vehicle.Times, quantity(0, 1, 9, 0, 0), quantity(1, 1, 1, 0, 0), api.Quantity{}, api.ErrRange},
		{"exponents up to the limit", vehicle.Times, quantity(2, 1, 4, -4, 0), quantity(3, 1, 5, -5, 9), quantity(6, 1, 9, -9, 9), api.OK},
		{"an exponent below the limit", vehicle.Over, quantity(2, 1, 0, -9, 0), quantity(3, 1, 0, 1, 0), api.Quantity{}, api.ErrRange},
		{"by a negative number", vehicle.Over, quantity(1, 2, 1, 0, 0), quantity(-3, 4, 0, 1, 0), quantity(-2, 3, 1, -1, 0), api.OK},
		{"by the least number", vehicle.Over, plain(1, 1), plain(-1<<62, 1), plain(-1, 1<<62), api.OK},
		{"by 0", vehicle.Over, plain(1, 1), plain(0, 1), api.Quantity{}, api.ErrArg},
		{"by 0, ahead of ranges", vehicle.Over, quantity(1, 1, 9, 0, 0), quantity(0, 1, -9, 0, 0), api.Quantity{}, api.ErrArg},
		{"of 0", vehicle.Over, plain(0, 1), quantity(-5, 7, 0, 1, 0), quantity(0, 1, 0, -1, 0), api.OK},
	} {
		q, e := x.call(x.a, x.b)
		wantQuantity(t, x.name, q, e, x.want, x.e)
	}
}

// TestOperationsChangedAbout: P2.14.
func TestOperationsChangedAbout(t *testing.T) {
	l := []api.Quantity{plain(0, 1), plain(1, 3), plain(-7, 10), plain(5, 1), plain(-1<<40, 3), plain(1, 1<<35), plain(1<<62, 7), quantity(2, 9, 1, -2, 1), quantity(-3, 4, 1, -2, 1), quantity(60, 1, 0, 1, 0)}
	for _, f := range []operation{{"Plus", vehicle.Plus, nil}, {"Times", vehicle.Times, nil}} {
		for _, a := range l {
			for _, b := range l {
				ab, e := f.call(a, b)
				ba, d := f.call(b, a)
				if ab != ba || e != d {
					t.Errorf("%s of %v and %v depends on their order", f.name, a, b)
				}
				for _, c := range l {
					bc, d := f.call(b, c)
					if e != api.OK || d != api.OK {
						continue
					}
					first, e1 := f.call(ab, c)
					last, e2 := f.call(a, bc)
					if e1 == api.OK && e2 == api.OK && first != last {
						t.Errorf("%s of %v, %v and %v depends on their order", f.name, a, b, c)
					}
				}
			}
		}
	}
	for _, a := range l {
		for _, b := range l {
			product, e := vehicle.Times(a, b)
			if e != api.OK || b.Num == 0 {
				continue
			}
			q, e := vehicle.Over(product, b)
			wantQuantity(t, "multiplied and divided", q, e, a, api.OK)
		}
	}
}

// TestLowerUpper: P2.3 and P2.15.
func TestLowerUpper(t *testing.T) {
	for _, w := range wrongQuantities() {
		if n, e := vehicle.Lower(w); n != 0 || e != api.ErrArg {
			t.Errorf("Lower(%v) is %d, error %d", w, n, e)
		}
		if n, e := vehicle.Upper(w); n != 0 || e != api.ErrArg {
			t.Errorf("Upper(%v) is %d, error %d", w, n, e)
		}
	}
	l := append(quantities(), plain(1<<31-1, 1), plain(-1<<31+1, 1), plain(-1<<31, 1), plain(1<<62-1, 1<<31), plain(1-1<<62, 1<<31), plain(1<<62, 1<<31-1),
		plain(1, 3), plain(-1, 3), plain(-1, 1<<40), plain(1, 1<<40), plain(3, 1<<33), plain(-3, 1<<33), plain(5, 1<<32), plain(-5, 1<<32))
	for _, q := range l {
		low, high := floor(number(q)), ceiling(number(q))
		checkRounded(t, "Lower", q, vehicle.Lower, low)
		checkRounded(t, "Upper", q, vehicle.Upper, high)
		a, e := vehicle.Lower(q)
		b, d := vehicle.Upper(q)
		if e != api.OK || d != api.OK {
			continue
		}
		exact := new(big.Int).Mod(new(big.Int).Lsh(big.NewInt(int64(q.Num)), 32), big.NewInt(int64(q.Den))).Sign() == 0
		if b-a > 1 || (a == b) != exact || rat(a).Cmp(number(q)) > 0 || rat(b).Cmp(number(q)) < 0 {
			t.Errorf("Lower and Upper of %v are %d and %d", q, a, b)
		}
	}
}

// checkRounded checks a number of a quantity.
func checkRounded(t *testing.T, name string, q api.Quantity, f func(q api.Quantity) (api.Num, api.Errno), want *big.Int) {
	t.Helper()
	n, e := f(q)
	if !fits(want) {
		if n != 0 || e != api.ErrRange {
			t.Errorf("%s(%v) is %d, error %d; want error %d", name, q, n, e, api.ErrRange)
		}
		return
	}
	if int64(n) != want.Int64() || e != api.OK {
		t.Errorf("%s(%v) is %d, error %d; want %d", name, q, n, e, want)
	}
}

// TestShow: P2.5.
func TestShow(t *testing.T) {
	for _, x := range []struct {
		q    api.Quantity
		want string
	}{
		{quantity(-3, 4, 1, -2, 0), "-3/4 km s^-2"},
		{plain(0, 1), "0"},
		{plain(-1<<62, 1), "-4611686018427387904"},
		{plain(1, 1<<62), "1/4611686018427387904"},
		{quantity(1500, 1, 1, -1, 0), "1500 km s^-1"},
		{quantity(1, 1, 1, 1, 1), "1 km s t"},
		{quantity(0, 1, 0, 0, 2), "0 t^2"},
		{quantity(5, 2, -9, 9, -1), "5/2 km^-9 s^9 t^-1"},
		{quantity(7, 1, 0, 1, 0), "7 s"},
	} {
		if s := vehicle.Show(x.q); s != x.want {
			t.Errorf("Show(%v) is %q, want %q", x.q, s, x.want)
		}
	}
	for _, w := range wrongQuantities() {
		if s := vehicle.Show(w); s != "" {
			t.Errorf("Show(%v) is %q", w, s)
		}
	}
}
