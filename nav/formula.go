package nav

import (
	"ullage/api"
	"ullage/span"
)

// fault is an error of an operation. It is sent by panic, and so ends the formula that the operation is a part of.
type fault api.Errno

// attempt evaluates a formula, up to a fault.
func attempt[T any](formula func() T) (out T, e api.Errno) {
	defer func() {
		if f, ok := recover().(fault); ok {
			e = api.Errno(f)
		}
	}()
	return formula(), api.OK
}

// must returns what an operation of layer 1 returned, or sends its error.
func must(a api.Span, e api.Errno) api.Span {
	if e != api.OK {
		panic(fault(e))
	}
	return a
}

func add(a, b api.Span) api.Span { return must(span.Add(a, b)) }

func sub(a, b api.Span) api.Span { return must(span.Sub(a, b)) }

func neg(a api.Span) api.Span { return must(span.Neg(a)) }

func mul(a, b api.Span) api.Span { return must(span.Mul(a, b)) }

func div(a, b api.Span) api.Span { return must(span.Div(a, b)) }

func square(a api.Span) api.Span { return must(span.Square(a)) }

func hull(a, b api.Span) api.Span { return must(span.Hull(a, b)) }

func meet(a, b api.Span) api.Span { return must(span.Meet(a, b)) }

func dot(a, b api.Box) api.Span { return must(span.Dot(a[:], b[:])) }

func norm(a api.Box) api.Span { return must(span.Norm(a[:])) }

// root returns all square roots. If a square cannot be, there is no such number: this is ErrNone, not layer 1's ErrRange.
func root(a api.Span) api.Span {
	if a.Hi < 0 {
		panic(fault(api.ErrNone))
	}
	return must(span.Root(a))
}

// away returns the way to a place from another one.
func away(place, from api.Box) api.Box {
	return api.Box{sub(place[0], from[0]), sub(place[1], from[1]), sub(place[2], from[2])}
}
