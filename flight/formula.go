package flight

import (
	"ullage/api"
	"ullage/span"
)

// formula evaluates formulas with the operations of layer 1. It keeps their first error; from then on each result is the point 0.
type formula struct{ e api.Errno }

// fail keeps an error, if it is the first one.
func (f *formula) fail(e api.Errno) {
	if f.e == api.OK {
		f.e = e
	}
}

// keep returns what an operation returned, and keeps its error.
func (f *formula) keep(a api.Span, e api.Errno) api.Span {
	f.fail(e)
	if f.e != api.OK {
		return api.Span{}
	}
	return a
}

func (f *formula) add(a, b api.Span) api.Span { return f.keep(span.Add(a, b)) }

func (f *formula) sub(a, b api.Span) api.Span { return f.keep(span.Sub(a, b)) }

func (f *formula) mul(a, b api.Span) api.Span { return f.keep(span.Mul(a, b)) }

func (f *formula) div(a, b api.Span) api.Span { return f.keep(span.Div(a, b)) }

func (f *formula) scale(a api.Span, n int) api.Span { return f.keep(span.Scale(a, n)) }

func (f *formula) square(a api.Span) api.Span { return f.keep(span.Square(a)) }

func (f *formula) dot(a, b api.Box) api.Span { return f.keep(span.Dot(a[:], b[:])) }

func (f *formula) norm(a api.Box) api.Span { return f.keep(span.Norm(a[:])) }

func (f *formula) look(l []api.Point, a api.Span) api.Span { return f.keep(span.Look(l, a)) }

func (f *formula) meet(a, b api.Span) api.Span { return f.keep(span.Meet(a, b)) }

// mass returns a mass that is left, which must have only numbers above 0.
func (f *formula) mass(m api.Span) api.Span {
	if !isMass(m) {
		f.fail(api.ErrRange)
	}
	return m
}
