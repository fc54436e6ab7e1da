package steer

import (
	"ullage/api"
	"ullage/span"
)

// formula evaluates formulas with the operations of layer 1. It keeps their first error; from then on each result is the point 0.
type formula struct{ e api.Errno }

// keep returns what an operation returned, and keeps its error.
func (f *formula) keep(a api.Span, e api.Errno) api.Span {
	if f.e == api.OK {
		f.e = e
	}
	if f.e != api.OK {
		return api.Span{}
	}
	return a
}

func (f *formula) add(a, b api.Span) api.Span { return f.keep(span.Add(a, b)) }

func (f *formula) sub(a, b api.Span) api.Span { return f.keep(span.Sub(a, b)) }

func (f *formula) mul(a, b api.Span) api.Span { return f.keep(span.Mul(a, b)) }

func (f *formula) div(a, b api.Span) api.Span { return f.keep(span.Div(a, b)) }

func (f *formula) scale(a api.Span, n int) api.Span { return f.keep(span.Scale(a, n)) }

func (f *formula) most(a, b api.Span) api.Span { return f.keep(span.Most(a, b)) }

func (f *formula) least(a, b api.Span) api.Span { return f.keep(span.Least(a, b)) }

// result returns a value of the formula, or its error.
func (f *formula) result(a api.Span) (api.Span, api.Errno) {
	if f.e != api.OK {
		return api.Span{}, f.e
	}
	return a, api.OK
}

// results returns two values of the formula, or its error.
func (f *formula) results(a, b api.Span) (api.Span, api.Span, api.Errno) {
	if f.e != api.OK {
		return api.Span{}, api.Span{}, f.e
	}
	return a, b, api.OK
}
