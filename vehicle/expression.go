package vehicle

import (
	"slices"
	"strconv"
	"strings"

	"ullage/api"
)

// parser reads quantities, and, with what it knows of a vehicle, vehicles.
type parser struct {
	reader
	draft
}

// attempt reads a whole text; a fault ends that.
func attempt[T any](s string, read func() T) (out T, at int, e api.Errno) {
	if len(s) > api.MaxText {
		return out, 0, api.ErrLong
	}
	defer func() {
		if f, ok := recover().(fault); ok {
			at, e = f.at, f.e
		}
	}()
	return read(), 0, api.OK
}

// Read reads a quantity.
func Read(s string) (q api.Quantity, at int, e api.Errno) {
	p := parser{reader: reader{text: s}}
	return attempt(s, p.alone)
}

// alone reads a quantity that is the whole text.
func (p *parser) alone() api.Quantity {
	q := p.quantity()
	p.expect("")
	return q
}

// quantity reads a sum of terms.
func (p *parser) quantity() api.Quantity {
	return p.chain(p.term, "+", "-")
}

// term reads a product of factors.
func (p *parser) term() api.Quantity {
	return p.chain(p.factor, "*", "/")
}

// chain reads operands with operators between them, which associate to the left.
func (p *parser) chain(operand func() api.Quantity, operators ...string) api.Quantity {
	q := operand()
	for slices.Contains(operators, p.look().text) {
		op := p.take()
		q = p.apply(op, q, operand())
	}
	return q
}

// apply applies an operator to its operands; that the token behind them is none comes first.
func (p *parser) apply(op token, a, b api.Quantity) api.Quantity {
	p.look()
	q, e := operate(op.text, a, b)
	demand(op.at, e)
	return q
}

// demand makes an error a fault.
func demand(at int, e api.Errno) {
	if e != api.OK {
		panic(fault{at, e})
	}
}

// operate returns what an operator makes of two quantities; a unit is one too, and multiplies.
func operate(op string, a, b api.Quantity) (api.Quantity, api.Errno) {
	switch op {
	case "+":
		return Plus(a, b)
	case "-":
		return Minus(a, b)
	case "/":
		return Over(a, b)
	}
	return Times(a, b)
}

// factor reads what operators do not divide.
func (p *parser) factor() api.Quantity {
	t := p.take()
	switch {
	case t.text == "-":
		return negative(p.factor())
	case t.text == "(":
		q := p.quantity()
		p.expect(")")
		return q
	case t.kind == number:
		return p.measured(t)
	case t.kind == word:
		return p.meaning(t)
	}
	panic(fault{t.at, api.ErrForm})
}

// measured returns a number, with the unit behind it, if there is one.
func (p *parser) measured(t token) api.Quantity {
	q := decimal(t.text)
	if u, is := unitOf(p.look().text); is {
		return p.apply(p.take(), q, u)
	}
	return q
}

// decimal returns the number of up to maxDigits digits.
func decimal(s string) api.Quantity {
	whole, tail, _ := strings.Cut(s, ".")
	n, _ := strconv.Atoi(whole + tail)
	d := 1
	for range tail {
		d *= 10
	}
	return lowest(n, d, dimension{})
}

// meaning returns what a word stands for in a quantity.
func (p *parser) meaning(t token) api.Quantity {
	if u, is := unitOf(t.text); is {
		return u
	}
	if reserved(t.text) {
		panic(fault{t.at, api.ErrForm})
	}
	q, given := p.lets[t.text]
	if !given {
		panic(fault{t.at, api.ErrNone})
	}
	return q
}
