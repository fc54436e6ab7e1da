package flight

import "ullage/api"

// Force returns the force at the box of a state.
func Force(p api.Planet, a api.Arc, s api.State) (api.Box, api.Errno) {
	if CheckPlanet(p) != api.OK || CheckArc(a) != api.OK || CheckState(s) != api.OK {
		return api.Box{}, api.ErrArg
	}
	var f formula
	force := f.force(p, a, motion{s.P, s.V}, s.M)
	if f.e != api.OK {
		return api.Box{}, f.e
	}
	return force, api.OK
}

// force returns the force at a box: the sum of all forces that there are.
func (f *formula) force(p api.Planet, a api.Arc, at motion, mass api.Span) api.Box {
	var none, r api.Span
	all := p.Pull
	if p.Mu != none || len(a.Drag) > 0 {
		r = f.norm(at[ofPlace])
	}
	if p.Mu != none {
		all = f.attract(all, p, at[ofPlace], r)
	}
	if p.Spin != none {
		all = f.turn(all, p.Spin, at)
	}
	if a.Thrust != none {
		all = f.push(all, a, mass)
	}
	if len(a.Drag) > 0 {
		b := f.div(f.look(a.Drag, f.sub(r, p.Radius)), mass)
		all = f.brake(all, b, at[ofVelocity])
	}
	return all
}

// attract adds the attraction, at a place in the distance r, to a force.
func (f *formula) attract(force api.Box, p api.Planet, at api.Box, r api.Span) api.Box {
	sub, mul, div := f.sub, f.mul, f.div
	u := each(func(i int) api.Span { return div(at[i], r) })
	s := div(div(p.Mu, r), r)
	n := f.flatten(p, u[z], r)
	return each(func(i int) api.Span { return sub(force[i], mul(mul(s, u[i]), n[i])) })
}

// flatten returns by how much an oblate planet attracts more than a ball, in the distance r, where the direction has the component up.
func (f *formula) flatten(p api.Planet, up, r api.Span) api.Box {
	one, three := whole(1), whole(3)
	var none api.Span
	if p.Oblate == none {
		return api.Box{one, one, one}
	}
	add, sub, mul := f.add, f.sub, f.mul
	c := mul(p.Oblate, f.square(f.div(p.Radius, r)))
	q := f.scale(f.square(up), 5)
	side := add(one, mul(c, sub(one, q)))
	return api.Box{side, side, add(one, mul(c, sub(three, q)))}
}

// turn adds what a turning planet makes to a force.
func (f *formula) turn(force api.Box, w api.Span, at motion) api.Box {
	add, sub, mul, scale := f.add, f.sub, f.mul, f.scale
	p, v := at[ofPlace], at[ofVelocity]
	e := f.square(w)
	force[x] = add(add(force[x], scale(mul(w, v[y]), 2)), mul(e, p[x]))
	force[y] = add(sub(force[y], scale(mul(w, v[x]), 2)), mul(e, p[y]))
	return force
}

// push adds the thrust to a force.
func (f *formula) push(force api.Box, a api.Arc, mass api.Span) api.Box {
	add, mul := f.add, f.mul
	t := f.div(a.Thrust, mass)
	return each(func(i int) api.Span { return add(force[i], mul(t, a.Dir[i])) })
}

// brake adds the drag, of b at a speed of 1, to a force.
func (f *formula) brake(force api.Box, b api.Span, v api.Box) api.Box {
	sub, mul := f.sub, f.mul
	a := f.norm(v)
	return each(func(i int) api.Span { return sub(force[i], mul(mul(b, a), v[i])) })
}
