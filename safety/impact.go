package safety

import (
	"ullage/api"
	"ullage/span"
)

// fall is what is known of something that falls, and what the steps of an impact have found, by the letters of the chapter.
type fall struct {
	known            api.Falling
	a, b, c, t, x, y api.Span
}

// step is a step of an impact, and where its result is kept.
type step struct {
	result *api.Span
	find   func() (api.Span, api.Errno)
}

// validFalling reports whether what is known of something that falls is valid.
func validFalling(f api.Falling) bool {
	for _, a := range []api.Span{f.X, f.Y, f.H, f.VX, f.VY, f.VZ, f.Pull, f.WX, f.WY} {
		if span.Check(a) != api.OK {
			return false
		}
	}
	return f.Pull.Lo > 0 && f.H.Lo >= 0
}

// Impact returns where something that falls hits the ground.
func Impact(f api.Falling) (api.Rect, api.Errno) {
	if !validFalling(f) {
		return api.Rect{}, api.ErrArg
	}
	w := fall{known: f}
	fault := api.OK
falling:
	for _, s := range w.steps() {
		switch found, e := s.find(); e {
		case api.OK:
			*s.result = found
		default:
			fault = e
			break falling
		}
	}
	if fault != api.OK {
		return api.Rect{}, fault
	}
	r := api.Rect{
		Low:  api.Spot{X: metresDown(w.x.Lo), Y: metresDown(w.y.Lo)},
		High: api.Spot{X: metresUp(w.x.Hi), Y: metresUp(w.y.Hi)},
	}
	if !validRect(r) {
		return api.Rect{}, api.ErrRange
	}
	return r, api.OK
}

// steps returns the steps of an impact, in their order: the time of the fall, and then how far it goes in x and in y.
func (w *fall) steps() [16]step {
	f := &w.known
	return [...]step{
		{&w.a, func() (api.Span, api.Errno) { return span.Square(f.VZ) }},
		{&w.b, func() (api.Span, api.Errno) { return span.Scale(f.Pull, 2) }},
		{&w.b, func() (api.Span, api.Errno) { return span.Mul(w.b, f.H) }},
		{&w.c, func() (api.Span, api.Errno) { return span.Add(w.a, w.b) }},
		{&w.c, func() (api.Span, api.Errno) { return span.Root(w.c) }},
		{&w.t, func() (api.Span, api.Errno) { return span.Add(f.VZ, w.c) }},
		{&w.t, func() (api.Span, api.Errno) { return span.Div(w.t, f.Pull) }},
		{&w.t, func() (api.Span, api.Errno) { return notBefore(w.t), api.OK }},
		{&w.x, func() (api.Span, api.Errno) { return span.Mul(f.VX, w.t) }},
		{&w.x, func() (api.Span, api.Errno) { return span.Add(f.X, w.x) }},
		{&w.a, func() (api.Span, api.Errno) { return span.Mul(f.WX, w.t) }},
		{&w.x, func() (api.Span, api.Errno) { return span.Add(w.x, w.a) }},
		{&w.y, func() (api.Span, api.Errno) { return span.Mul(f.VY, w.t) }},
		{&w.y, func() (api.Span, api.Errno) { return span.Add(f.Y, w.y) }},
		{&w.a, func() (api.Span, api.Errno) { return span.Mul(f.WY, w.t) }},
		{&w.y, func() (api.Span, api.Errno) { return span.Add(w.y, w.a) }},
	}
}

// notBefore returns times without those before 0: the steps may find some where not all numbers of their spans go together, but nothing lands then.
func notBefore(t api.Span) api.Span { return api.Span{Lo: max(t.Lo, 0), Hi: t.Hi} }

// metresDown returns a number of km in m, rounded down. The product as a whole could leave 64 bits.
func metresDown(n api.Num) int {
	whole, part := int(n>>32), int(n&(api.One-1))
	return 1000*whole + (1000*part)>>32
}

// metresUp returns a number of km in m, rounded up.
func metresUp(n api.Num) int { return -metresDown(-n) }
