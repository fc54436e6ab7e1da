package flight_test

import (
	"testing"

	"ullage/api"
	"ullage/flight"
	"ullage/span"
)

// oops is a panic with an error.
type oops struct{ e api.Errno }

// ok returns what an operation returns, or panics with its error.
func ok[T any](v T, e api.Errno) T {
	if e != api.OK {
		panic(oops{e})
	}
	return v
}

// forceByBook is the force at a box, line by line as the chapter has it.
func forceByBook(p api.Planet, a api.Arc, P, V api.Box, M api.Span) api.Box {
	zero := api.Span{}
	A := p.Pull
	var r api.Span
	if p.Mu != zero || len(a.Drag) != 0 {
		r = ok(span.Norm(P[:]))
	}
	if p.Mu != zero {
		var u api.Box
		for i := range 3 {
			u[i] = ok(span.Div(P[i], r))
		}
		s := ok(span.Div(ok(span.Div(p.Mu, r)), r))
		n := box(1, 1, 1)
		if p.Oblate != zero {
			c := ok(span.Mul(p.Oblate, ok(span.Square(ok(span.Div(p.Radius, r))))))
			q := ok(span.Scale(ok(span.Square(u[2])), 5))
			n[0] = ok(span.Add(whole(1), ok(span.Mul(c, ok(span.Sub(whole(1), q))))))
			n[1] = n[0]
			n[2] = ok(span.Add(whole(1), ok(span.Mul(c, ok(span.Sub(whole(3), q))))))
		}
		for i := range 3 {
			A[i] = ok(span.Sub(A[i], ok(span.Mul(ok(span.Mul(s, u[i])), n[i]))))
		}
	}
	if w := p.Spin; w != zero {
		e := ok(span.Square(w))
		A[0] = ok(span.Add(ok(span.Add(A[0], ok(span.Scale(ok(span.Mul(w, V[1])), 2)))), ok(span.Mul(e, P[0]))))
		A[1] = ok(span.Add(ok(span.Sub(A[1], ok(span.Scale(ok(span.Mul(w, V[0])), 2)))), ok(span.Mul(e, P[1]))))
	}
	if a.Thrust != zero {
		t := ok(span.Div(a.Thrust, M))
		for i := range 3 {
			A[i] = ok(span.Add(A[i], ok(span.Mul(t, a.Dir[i]))))
		}
	}
	if len(a.Drag) != 0 {
		b := ok(span.Div(ok(span.Look(a.Drag, ok(span.Sub(r, p.Radius)))), M))
		v := ok(span.Norm(V[:]))
		for i := range 3 {
			A[i] = ok(span.Sub(A[i], ok(span.Mul(ok(span.Mul(b, v)), V[i]))))
		}
	}
	return A
}

// stepped is a step, and how many tries it took.
type stepped struct {
	next  api.State
	tube  api.Tube
	tries int
}

// stepByBook is a step, line by line as the chapter has it.
func stepByBook(p api.Planet, a api.Arc, s api.State, h api.Num) (out stepped, e api.Errno) {
	defer func() {
		if x, is := recover().(oops); is {
			out, e = stepped{}, x.e
		}
	}()
	end := ok(span.Add(point(s.T), point(h))).Lo
	D := api.Span{Lo: 0, Hi: h}
	if h < 0 {
		D = api.Span{Lo: h, Hi: 0}
	}
	N := ok(span.Sub(s.M, ok(span.Mul(a.Flow, D))))
	if span.Sign(N) != 1 {
		return stepped{}, api.ErrRange
	}
	BP, BV := s.P, s.V
	var CP, CV api.Box
	found, tries := false, 0
	for !found && tries < api.MaxTries {
		tries++
		A := forceByBook(p, a, BP, BV, N)
		for i := range 3 {
			CP[i] = ok(span.Add(s.P[i], ok(span.Mul(D, BV[i]))))
		}
		for i := range 3 {
			CV[i] = ok(span.Add(s.V[i], ok(span.Mul(D, A[i]))))
		}
		found = widerByBook(&BP, CP)
		found = widerByBook(&BV, CV) && found
	}
	if !found {
		return stepped{}, api.ErrState
	}
	A := forceByBook(p, a, CP, CV, N)
	k := ok(span.Div(ok(span.Mul(point(h), point(h))), whole(2)))
	out = stepped{next: api.State{T: end}, tube: api.Tube{From: min(s.T, end), To: max(s.T, end), P: CP, V: CV, M: N}, tries: tries}
	for i := range 3 {
		out.next.P[i] = ok(span.Add(ok(span.Add(s.P[i], ok(span.Mul(point(h), s.V[i])))), ok(span.Mul(k, A[i]))))
	}
	for i := range 3 {
		out.next.V[i] = ok(span.Add(s.V[i], ok(span.Mul(point(h), A[i]))))
	}
	out.next.M = ok(span.Sub(s.M, ok(span.Mul(point(h), a.Flow))))
	return out, api.OK
}

// widerByBook widens the spans of B that do not contain those of C, and reports whether there are none.
func widerByBook(B *api.Box, C api.Box) bool {
	within := true
	for i := range 3 {
		if !span.Within(C[i], B[i]) {
			within = false
			H := ok(span.Hull(B[i], C[i]))
			B[i] = ok(span.Grow(H, api.Num(int64(ok(span.Wide(H)))/8+65536)))
		}
	}
	return within
}

// anything is arguments of a step, some of them wild.
func (s *sample) anything() (api.Planet, api.Arc, api.State, api.Num) {
	size := api.One << s.below(24)
	span := func() api.Span {
		n := s.num(size)
		switch s.below(4) {
		case 0:
			return api.Span{}
		case 1:
			return point(n)
		case 2:
			return api.Span{Lo: n, Hi: n + api.Num(s.next()%1000)}
		}
		m := n + s.num(api.One)
		return api.Span{Lo: min(m, n), Hi: max(m, n)}
	}
	above := func() api.Span {
		a := span()
		return api.Span{Lo: max(a.Lo, 0), Hi: max(a.Hi, 0)}
	}
	box := func() api.Box { return api.Box{span(), span(), span()} }
	p := api.Planet{Mu: above(), Radius: above(), Oblate: span(), Spin: span(), Pull: box()}
	slow := s.below(24)
	p.Spin.Lo, p.Spin.Hi = p.Spin.Lo>>slow, p.Spin.Hi>>slow
	a := api.Arc{Time: 1, Step: 1, Thrust: above(), Flow: above()}
	one := api.Span{Lo: -api.One, Hi: api.One}
	a.Dir = api.Box{s.part(one), s.part(one), s.part(one)}
	if s.below(3) == 0 {
		a.Drag = []api.Point{{At: -size, Value: s.part(ints(0, 2))}, {At: size, Value: s.part(ints(0, 1))}}
	}
	st := api.State{T: s.num(api.MostNum), P: box(), V: box(), M: above()}
	st.M = api.Span{Lo: st.M.Lo + 1 + api.Num(s.below(9))*size, Hi: st.M.Hi + 10*size}
	h := s.num(4 * api.One)
	if h == 0 {
		h = 1
	}
	return p, a, st, h
}

// TestByBook: P3.2. Forces and steps are those of the chapter's lines, to the last bit and error.
func TestByBook(t *testing.T) {
	s := sample{1}
	errors, tries := map[api.Errno]int{}, map[int]int{}
	for range 40000 {
		p, a, st, h := s.anything()
		wantedForce, wantedE := func() (f api.Box, e api.Errno) {
			defer func() {
				if x, is := recover().(oops); is {
					f, e = api.Box{}, x.e
				}
			}()
			return forceByBook(p, a, st.P, st.V, st.M), api.OK
		}()
		f, e := flight.Force(p, a, st)
		want(t, "Force", f, e, wantedForce, wantedE)
		wanted, wantedE := stepByBook(p, a, st, h)
		next, tube, e := flight.Step(p, a, st, h)
		want(t, "the new state", next, e, wanted.next, wantedE)
		want(t, "the tube", tube, e, wanted.tube, wantedE)
		errors[e]++
		tries[wanted.tries]++
	}
	for _, e := range []api.Errno{api.OK, api.ErrRange, api.ErrState, api.ErrZero} {
		if errors[e] < 100 {
			t.Errorf("only %d steps end with error %d", errors[e], e)
		}
	}
	for n := 2; n <= api.MaxTries; n++ {
		if tries[n] < 3 {
			t.Errorf("only %d steps take %d tries", tries[n], n)
		}
	}
}
