package steer

import (
	"ullage/api"
	"ullage/span"
)

// factorRange returns all factors that a section may have.
func factorRange() api.Span { return api.Span{Lo: -api.MaxFactor, Hi: api.MaxFactor} }

// CheckFilter returns ErrLong or ErrArg unless a filter is valid.
func CheckFilter(l []api.Section) api.Errno {
	if len(l) > api.MaxSections {
		return api.ErrLong
	}
	for _, s := range l {
		for _, n := range [...]api.Num{s.B0, s.B1, s.B2, s.A1, s.A2} {
			if !span.In(factorRange(), n) {
				return api.ErrArg
			}
		}
	}
	return api.OK
}

// Run returns what a filter makes of samples.
func Run(l []api.Section, x []api.Num) ([]api.Num, api.Errno) {
	if e := CheckFilter(l); e != api.OK {
		return nil, e
	}
	if len(x) > api.MaxSamples {
		return nil, api.ErrLong
	}
	for _, n := range x {
		if !isNumber(n) {
			return nil, api.ErrArg
		}
	}
	var passes []pass[api.Num]
	for _, s := range l {
		at := line[api.Num]{factors: taps[api.Num]{s.B0, s.B1, s.B2, s.A1, s.A2}, sum: exactly}
		passes = append(passes, at.take)
	}
	return chain(passes, x)
}

// Reach returns where what filters make is.
func Reach(l []api.Loose, x []api.Span) ([]api.Span, api.Errno) {
	if len(l) > api.MaxSections || len(x) > api.MaxSamples {
		return nil, api.ErrLong
	}
	var passes []pass[api.Span]
	for _, s := range l {
		at := line[api.Span]{factors: taps[api.Span]{s.B0, s.B1, s.B2, s.A1, s.A2}, sum: enclosed}
		for _, a := range at.factors {
			if !span.Within(a, factorRange()) {
				return nil, api.ErrArg
			}
		}
		passes = append(passes, at.take)
	}
	if !valid(x...) {
		return nil, api.ErrArg
	}
	return chain(passes, x)
}

// taps are the five values that a section multiplies and adds up: x_k, x_(k-1), x_(k-2), y_(k-1), y_(k-2), or the factors of these.
type taps[T any] [5]T

// line is a section at work: its factors, its delays, and how it makes a sample of both.
type line[T any] struct {
	factors, delays taps[T]
	sum             func(factors, delays taps[T]) (T, api.Errno)
}

// take takes the next sample, and returns what the section makes.
func (l *line[T]) take(x T) (T, api.Errno) {
	d := &l.delays
	d[0], d[1], d[2] = x, d[0], d[1]
	y, e := l.sum(l.factors, *d)
	d[3], d[4] = y, d[3]
	return y, e
}

// pass is what a section does with a sample.
type pass[T any] func(x T) (T, api.Errno)

// chain passes samples through sections: what the first one makes are the samples of the second one, and so on.
func chain[T any](passes []pass[T], x []T) ([]T, api.Errno) {
	var out []T
	for _, y := range x {
		for _, p := range passes {
			var e api.Errno
			if y, e = p(y); e != api.OK {
				return nil, e
			}
		}
		out = append(out, y)
	}
	return out, api.OK
}

// exactly returns what a section makes, rounded down.
func exactly(factors, delays taps[api.Num]) (api.Num, api.Errno) {
	var sum wide
	for i, n := range factors {
		if i > 2 {
			n = -n // what is fed back is subtracted
		}
		// A product is at most 2^97 in size: five of them fit.
		sum = sum.plus(times(n, delays[i]))
	}
	return sum.down()
}

// enclosed returns all that sections may make.
func enclosed(factors, delays taps[api.Span]) (api.Span, api.Errno) {
	var f formula
	var terms taps[api.Span]
	for i, a := range factors {
		terms[i] = f.mul(a, delays[i])
	}
	ahead := f.add(f.add(terms[0], terms[1]), terms[2])
	return f.result(f.sub(f.sub(ahead, terms[3]), terms[4]))
}

// Steady returns whether sections forget their past.
func Steady(a1, a2 api.Span) int {
	var f formula
	one := whole(1)
	first := f.sub(one, a2)
	second := f.add(f.add(one, a1), a2)
	third := f.add(f.sub(one, a1), a2)
	if f.e != api.OK {
		return neither
	}
	return together(span.Sign(first), span.Sign(second), span.Sign(third))
}
