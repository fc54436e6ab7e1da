package span_test

import (
	"slices"
	"testing"

	"ullage/api"
	"ullage/span"
)

// times returns a list of so many equal spans.
func times(a api.Span, n int) []api.Span { return slices.Repeat([]api.Span{a}, n) }

// TestSum: P1.10.
func TestSum(t *testing.T) {
	most := point(api.MostNum)
	least := point(-api.MostNum)
	for _, c := range []struct {
		l    []api.Span
		want api.Span
		e    api.Errno
	}{
		{nil, api.Span{}, api.OK},
		{[]api.Span{}, api.Span{}, api.OK},
		{[]api.Span{ints(1, 2)}, ints(1, 2), api.OK},
		{[]api.Span{ints(1, 2), ints(-5, 7), ints(0, 0)}, ints(-4, 9), api.OK},
		{times(ints(-1, 3), api.MaxTerms), ints(-64, 192), api.OK},
		{times(ints(-1, 3), api.MaxTerms+1), api.Span{}, api.ErrLong},
		{times(wrongSpans()[0], api.MaxTerms), api.Span{}, api.ErrArg},
		{times(wrongSpans()[0], api.MaxTerms+1), api.Span{}, api.ErrLong},
		{[]api.Span{most, least, most}, most, api.OK},
		{[]api.Span{most, point(1), point(-1)}, api.Span{}, api.ErrRange},
		{[]api.Span{least, point(-1), point(1)}, api.Span{}, api.ErrRange},
		{[]api.Span{most, point(1), wrongSpans()[0]}, api.Span{}, api.ErrArg},
	} {
		before := slices.Clone(c.l)
		a, e := span.Sum(c.l)
		wantSpan(t, "Sum", a, e, c.want, c.e)
		if !slices.Equal(c.l, before) {
			t.Error("Sum changes its list")
		}
	}
}

// TestDot: P1.10.
func TestDot(t *testing.T) {
	one, two, huge := ints(1, 1), ints(2, 2), ints(1<<20, 1<<20)
	wrong := wrongSpans()[0]
	for _, c := range []struct {
		a, b []api.Span
		want api.Span
		e    api.Errno
	}{
		{nil, nil, api.Span{}, api.OK},
		{nil, []api.Span{}, api.Span{}, api.OK},
		{[]api.Span{one, two}, []api.Span{ints(3, 3), ints(4, 4)}, ints(11, 11), api.OK},
		{[]api.Span{ints(-1, 2)}, []api.Span{ints(-1, 2)}, ints(-2, 4), api.OK},
		{[]api.Span{point(1), point(1)}, []api.Span{point(1), point(-1)}, api.Span{Lo: -1, Hi: 1}, api.OK},
		{times(one, api.MaxTerms), times(two, api.MaxTerms), ints(128, 128), api.OK},
		{times(one, api.MaxTerms+1), times(two, api.MaxTerms+1), api.Span{}, api.ErrLong},
		{times(one, api.MaxTerms+1), nil, api.Span{}, api.ErrLong},
		{nil, times(one, api.MaxTerms+1), api.Span{}, api.ErrLong},
		{[]api.Span{wrong}, times(one, api.MaxTerms+1), api.Span{}, api.ErrLong},
		{times(wrong, api.MaxTerms+1), []api.Span{one}, api.Span{}, api.ErrLong},
		{[]api.Span{one}, []api.Span{one, two}, api.Span{}, api.ErrArg},
		{[]api.Span{one, two}, []api.Span{one}, api.Span{}, api.ErrArg},
		{[]api.Span{one}, nil, api.Span{}, api.ErrArg},
		{[]api.Span{huge}, []api.Span{huge, one}, api.Span{}, api.ErrArg},
		{[]api.Span{one, wrong}, []api.Span{one, two}, api.Span{}, api.ErrArg},
		{[]api.Span{one, two}, []api.Span{one, wrong}, api.Span{}, api.ErrArg},
		{[]api.Span{huge, wrong}, []api.Span{huge, one}, api.Span{}, api.ErrArg},
		{[]api.Span{huge}, []api.Span{huge}, api.Span{}, api.ErrRange},
		{[]api.Span{point(api.MostNum), point(1), point(-1)}, []api.Span{one, one, one}, api.Span{}, api.ErrRange},
		{[]api.Span{point(api.MostNum), point(-1), point(1)}, []api.Span{one, one, one}, point(api.MostNum), api.OK},
	} {
		beforeA, beforeB := slices.Clone(c.a), slices.Clone(c.b)
		a, e := span.Dot(c.a, c.b)
		wantSpan(t, "Dot", a, e, c.want, c.e)
		if !slices.Equal(c.a, beforeA) || !slices.Equal(c.b, beforeB) {
			t.Error("Dot changes a list")
		}
	}
}

// TestNorm: P1.10.
func TestNorm(t *testing.T) {
	for _, c := range []struct {
		l    []api.Span
		want api.Span
		e    api.Errno
	}{
		{nil, api.Span{}, api.OK},
		{[]api.Span{}, api.Span{}, api.OK},
		{[]api.Span{ints(3, 3), ints(-4, -4), ints(12, 12)}, ints(13, 13), api.OK},
		{[]api.Span{ints(-3, 2), ints(-4, -4)}, ints(4, 5), api.OK},
		{[]api.Span{ints(1, 1), ints(1, 1)}, api.Span{Lo: 6074000999, Hi: 6074001000}, api.OK},
		{[]api.Span{point(1)}, api.Span{Lo: 0, Hi: 1 << 16}, api.OK}, // each step rounds out
		{times(ints(1, 1), api.MaxTerms), ints(8, 8), api.OK},
		{times(ints(1, 1), api.MaxTerms+1), api.Span{}, api.ErrLong},
		{times(wrongSpans()[0], api.MaxTerms+1), api.Span{}, api.ErrLong},
		{[]api.Span{ints(1, 1), wrongSpans()[2]}, api.Span{}, api.ErrArg},
		{[]api.Span{ints(1<<20, 1<<20), wrongSpans()[2]}, api.Span{}, api.ErrArg},
		{[]api.Span{ints(1<<20, 1<<20)}, api.Span{}, api.ErrRange},
		{[]api.Span{ints(40000, 40000)}, ints(40000, 40000), api.OK},
		{[]api.Span{ints(40000, 40000), ints(40000, 40000)}, api.Span{}, api.ErrRange},
	} {
		before := slices.Clone(c.l)
		a, e := span.Norm(c.l)
		wantSpan(t, "Norm", a, e, c.want, c.e)
		if !slices.Equal(c.l, before) {
			t.Error("Norm changes its list")
		}
	}
}

// TestListsStepByStep: P1.10, against the steps that the document names.
func TestListsStepByStep(t *testing.T) {
	s := sample{6}
	for range 3000 {
		var a, b []api.Span
		for range s.next() % 6 {
			a, b = append(a, s.span()), append(b, s.span())
		}
		all, dot, squares := api.Span{}, api.Span{}, api.Span{}
		var allE, dotE, squaresE api.Errno
		for i := range a {
			all, allE = next(all, allE, a[i], api.OK)
			term, e := span.Mul(a[i], b[i])
			dot, dotE = next(dot, dotE, term, e)
			term, e = span.Square(a[i])
			squares, squaresE = next(squares, squaresE, term, e)
		}
		got, e := span.Sum(a)
		wantSpan(t, "Sum", got, e, all, allE)
		got, e = span.Dot(a, b)
		wantSpan(t, "Dot", got, e, dot, dotE)
		norm, normE := api.Span{}, squaresE
		if normE == api.OK {
			norm, normE = span.Root(squares)
		}
		got, e = span.Norm(a)
		wantSpan(t, "Norm", got, e, norm, normE)
	}
}

// next adds a term, unless there was an error.
func next(sum api.Span, e api.Errno, term api.Span, termE api.Errno) (api.Span, api.Errno) {
	if e != api.OK {
		return api.Span{}, e
	}
	if termE != api.OK {
		return api.Span{}, termE
	}
	return span.Add(sum, term)
}
