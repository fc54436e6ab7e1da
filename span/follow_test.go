package span_test

import (
	"math/big"
	"testing"

	"ullage/api"
	"ullage/span"
)

// TestResultsContainAll: P1.11 and P0.2, with numbers inside of the spans.
func TestResultsContainAll(t *testing.T) {
	exact := map[string]func(x, y *big.Rat) *big.Rat{"Add": sum, "Sub": difference, "Mul": product, "Div": quotient}
	s := sample{7}
	for range 5000 {
		a, b := s.span(), s.span()
		x, y := s.in(a), s.in(b)
		for _, f := range binaries() {
			g := exact[f.name]
			got, e := f.call(a, b)
			if g == nil || e != api.OK {
				continue
			}
			if !inside(got, g(rat(x), rat(y))) {
				t.Errorf("%s(%v, %v) is %v, without that of %d and %d", f.name, a, b, got, x, y)
			}
		}
		if got, e := span.Square(a); e == api.OK && !inside(got, product(rat(x), rat(x))) {
			t.Errorf("Square(%v) is %v, without that of %d", a, got, x)
		}
		if got, e := span.Root(a); e == api.OK && x >= 0 {
			low, high := rat(got.Lo), rat(got.Hi)
			if product(low, low).Cmp(rat(x)) > 0 || product(high, high).Cmp(rat(x)) < 0 {
				t.Errorf("Root(%v) is %v, without that of %d", a, got, x)
			}
		}
	}
}

// TestResultsAreLeast: P1.11, of points: a result has at most two neighbouring numbers, and one if it is exact.
func TestResultsAreLeast(t *testing.T) {
	s := sample{8}
	for range 5000 {
		a, b := point(s.num()), point(s.num())
		for _, f := range binaries()[:4] {
			got, e := f.call(a, b)
			if e == api.OK && got.Hi-got.Lo > 1 {
				t.Errorf("%s of points, %v and %v, is %v", f.name, a, b, got)
			}
		}
		for _, f := range []unary{{"Square", span.Square}, {"Root", span.Root}} {
			got, e := f.call(a)
			if e == api.OK && got.Hi-got.Lo > 1 {
				t.Errorf("%s of a point, %v, is %v", f.name, a, got)
			}
		}
	}
}

// TestPartsGiveParts: P1.11.
func TestPartsGiveParts(t *testing.T) {
	s := sample{9}
	for range 3000 {
		a, b := s.span(), s.span()
		if s.next()%4 == 0 {
			a = s.part(ints(-1, 1)) // otherwise Turn hardly ever has a result
		}
		partA, partB := s.part(a), s.part(b)
		for _, f := range unaries() {
			if f.name == "Split, the first" || f.name == "Split, the second" {
				continue // a half is no set of results
			}
			all, e := f.call(a)
			part, partE := f.call(partA)
			none := f.name == "Root" && partA.Hi < 0
			if e == api.OK && !none && (partE != api.OK || !span.Within(part, all)) {
				t.Errorf("%s(%v) is %v, but %v, error %d for %v", f.name, a, all, part, partE, partA)
			}
		}
		for _, f := range binaries() {
			all, e := f.call(a, b)
			part, partE := f.call(partA, partB)
			none := f.name == "Meet" && partE == api.ErrNone
			if e == api.OK && !none && (partE != api.OK || !span.Within(part, all)) {
				t.Errorf("%s(%v, %v) is %v, but %v, error %d for %v, %v", f.name, a, b, all, part, partE, partA, partB)
			}
		}
	}
}

// TestReadText: P1.11.
func TestReadText(t *testing.T) {
	s := sample{10}
	l := numbers()
	for range 5000 {
		l = append(l, s.num())
	}
	for _, n := range l {
		a, e := span.Read(span.Text(n))
		wantSpan(t, "Read(Text(n))", a, e, point(n), api.OK)
	}
}
