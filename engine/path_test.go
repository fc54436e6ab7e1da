package engine_test

import (
	"slices"
	"testing"

	"ullage/api"
	"ullage/engine"
)

// wantPath checks what Path returns.
func wantPath(t *testing.T, what string, p api.Plant, goal []api.Lit, wanted []api.Order, wantedE api.Errno) {
	t.Helper()
	l, e := engine.Path(p, goal)
	if !slices.Equal(l, wanted) || e != wantedE {
		t.Errorf("%s: %v, error %d; want %v, error %d", what, l, e, wanted, wantedE)
	}
}

// TestPaths: P7.6.
func TestPaths(t *testing.T) {
	vo, vc, wo, wc, xo, xc := lit(0, true), lit(0, false), lit(1, true), lit(1, false), lit(2, true), lit(2, false)
	three := []int{2, 1, 3}
	opened := gates(three)
	opened.Valves[0].Open, opened.Valves[2].Open = true, true
	shut := gates(three, bothOpen())
	shut.Valves[1].Open = true
	bypass := gates([]int{1, 1, 1}, []api.Lit{vo, wc}, []api.Lit{wo, xc}, []api.Lit{vo, xo})
	for _, c := range []struct {
		what   string
		p      api.Plant
		goal   []api.Lit
		orders []api.Order
		e      api.Errno
	}{
		{"the first example", example(), []api.Lit{vo}, []api.Order{open(0)}, api.OK},
		{"the second example", example(bothOpen()), bothOpen(), nil, api.ErrNone},
		{"both", example(), bothOpen(), []api.Order{open(0), open(1)}, api.OK},
		{"what is so at first", example(bothOpen()), []api.Lit{wc, vc}, nil, api.OK},
		{"a literal twice", example(), []api.Lit{wo, wo}, []api.Order{open(1)}, api.OK},
		{"open and closed", example(), []api.Lit{vo, vc}, nil, api.ErrNone},
		{"by rising valves, whatever they take", gates(three), []api.Lit{xo, wo}, []api.Order{open(1), open(2)}, api.OK},
		{"some are closed", opened, []api.Lit{xc, wo, vc}, []api.Order{closed(0), open(1), closed(2)}, api.OK},
		{"w is closed before v is opened", shut, []api.Lit{vo}, []api.Order{closed(1), open(0)}, api.OK},
		{"both, which are never open together", shut, []api.Lit{vo, wo, xo}, nil, api.ErrNone},
		{"w only while v is open", gates(three, []api.Lit{wo, vc}), []api.Lit{wo}, []api.Order{open(0), open(1)}, api.OK},
		{"x, w, then v, as each needs the one before", gates(three, []api.Lit{vo, wc}, []api.Lit{wo, xc}), []api.Lit{vo}, []api.Order{open(2), open(1), open(0)}, api.OK},
		{"v needs w, w needs x, but v and x are never open", bypass, []api.Lit{vo}, nil, api.ErrNone},
		{"v never leaves its place", gates(three, []api.Lit{vo, vc}), []api.Lit{vo}, nil, api.ErrNone},
	} {
		wantPath(t, c.what, c.p, c.goal, c.orders, c.e)
	}
}

// TestWrongGoals: P7.6, ErrArg.
func TestWrongGoals(t *testing.T) {
	many := func(n int, last api.Lit) []api.Lit { return append(make([]api.Lit, n-1), last) }
	wantPath(t, "no goal", example(), nil, nil, api.ErrArg)
	wantPath(t, "16 literals", example(), many(16, lit(1, false)), nil, api.OK)
	wantPath(t, "17 literals", example(), many(17, lit(1, false)), nil, api.ErrArg)
	wantPath(t, "a valve below 0", example(), many(2, lit(-1, false)), nil, api.ErrArg)
	wantPath(t, "a valve behind the last", example(), many(16, lit(2, false)), nil, api.ErrArg)
	wantPath(t, "no plant", api.Plant{}, many(2, lit(0, false)), nil, api.ErrArg)
	wantPath(t, "a plant that is wrong", example([]api.Lit{lit(0, false)}), bothOpen(), nil, api.ErrArg)
	goal := bothOpen()
	engine.Path(example(), goal)
	wantList(t, "the goal", goal, bothOpen())
}

// row is a row of moves, as letters that rise in the order of moves, and the state of the valves behind it.
type row struct{ moves, state string }

// tickLetter is the letter of a tick, behind those of all orders.
const tickLetter = 'z'

// state returns the places and wants of all valves.
func (b *book) state() string {
	var l []byte
	for i, n := range b.place {
		l = append(l, byte(n), '-')
		if b.wanted[i] {
			l[len(l)-1] = '+'
		}
	}
	return string(l)
}

// set makes the valves be in a state.
func (b *book) set(state string) {
	for i := range b.place {
		b.place[i], b.wanted[i] = int(state[2*i]), state[2*i+1] == '+'
	}
}

// longer returns all rows that are longer than a row by one move.
func (b *book) longer(r row) []row {
	var l []row
	for i := range b.place {
		for k, open := range []bool{false, true} {
			b.set(r.state)
			if b.wanted[i] != open && !b.order(api.Order{Valve: i, Open: open}) {
				l = append(l, row{r.moves + string(rune('a'+2*i+k)), b.state()})
			}
		}
	}
	b.set(r.state)
	b.tick()
	return append(l, row{r.moves + string(tickLetter), b.state()})
}

// reaches reports whether a state reaches a goal.
func (b *book) reaches(state string, goal []api.Lit) bool {
	b.set(state)
	for _, l := range goal {
		end := 0
		if b.wanted[l.Valve] {
			end = b.p.Valves[l.Valve].Travel
		}
		if !b.holds(l) || b.place[l.Valve] != end {
			return false
		}
	}
	return true
}

// rowsTo returns the first rows to all states, in their order, but no more than one above the limit.
func rowsTo(p api.Plant, limit int) []row {
	b := byBook(p)
	level := []row{{"", b.state()}}
	all, known := slices.Clone(level), map[string]bool{level[0].state: true}
	for len(level) > 0 {
		var next []row
		for _, r := range level {
			next = append(next, b.longer(r)...)
		}
		slices.SortFunc(next, func(a, b row) int { return slices.Compare([]byte(a.moves), []byte(b.moves)) })
		level = nil
		for _, r := range next {
			if known[r.state] {
				continue
			}
			if known[r.state] = true; len(all) > limit {
				return all
			}
			level, all = append(level, r), append(all, r)
		}
	}
	return all
}

// ordersOf returns the orders of a row.
func ordersOf(moves string) []api.Order {
	var l []api.Order
	for _, m := range moves {
		if m != tickLetter {
			l = append(l, api.Order{Valve: int(m-'a') / 2, Open: (m-'a')%2 == 1})
		}
	}
	return l
}

// pathByRows is Path, from all rows.
func pathByRows(p api.Plant, rows []row, goal []api.Lit) ([]api.Order, api.Errno) {
	b := byBook(p)
	for i, r := range rows {
		if i >= api.MaxStates {
			return nil, api.ErrLong
		}
		if b.reaches(r.state, goal) {
			return ordersOf(r.moves), api.OK
		}
	}
	return nil, api.ErrNone
}

// TestPathsByBook: P7.6; paths are those of the least one of all rows.
func TestPathsByBook(t *testing.T) {
	r := &sample{3}
	none, long := 0, 0
	for range 250 {
		p := r.maze(r.from(2, 4))
		rows := rowsTo(p, api.MaxStates)
		for range 10 {
			goal := r.goal(p)
			orders, e := pathByRows(p, rows, goal)
			wantPath(t, "a path", p, goal, orders, e)
			if e == api.ErrNone {
				none++
			}
			if len(orders) > 2 {
				long++
			}
		}
	}
	if none < 300 || none > 1500 || long < 200 {
		t.Errorf("%d without a path, %d long ones", none, long)
	}
}

// deepen returns the orders of the first row of so many moves that leads to a goal, of all rows whatever, states that come again too.
func (b *book) deepen(at row, moves int, goal []api.Lit) ([]api.Order, bool) {
	if moves == 0 {
		return ordersOf(at.moves), b.reaches(at.state, goal)
	}
	for _, r := range b.longer(at) {
		if l, ok := b.deepen(r, moves-1, goal); ok {
			return l, true
		}
	}
	return nil, false
}

// TestPathsByAllRows: P7.6; no row of fewer moves leads to the goal, and none of as many that comes before.
func TestPathsByAllRows(t *testing.T) {
	r := &sample{4}
	found := 0
	for range 300 {
		p := r.maze(r.from(1, 3))
		goal := r.goal(p)
		b := byBook(p)
		first := row{"", b.state()}
		for moves := range 8 {
			if l, ok := b.deepen(first, moves, goal); ok {
				wantPath(t, "a path", p, goal, l, api.OK)
				found++
				break
			}
		}
	}
	if found < 150 {
		t.Errorf("%d paths", found)
	}
}

// TestMaxStates: P7.6; the goal may be the state 20000, but not the one behind it.
func TestMaxStates(t *testing.T) {
	last := gates([]int{3, 1, 1, 1, 4, 4, 2})
	lastGoal := []api.Lit{lit(0, true), lit(1, false), lit(2, false), lit(3, true), lit(4, true), lit(5, true), lit(6, false)}
	behind := gates([]int{2, 1, 3, 4, 3, 1})
	behindGoal := []api.Lit{lit(0, false), lit(1, true), lit(2, true), lit(3, true), lit(4, true), lit(5, true)}
	for _, c := range []struct {
		p     api.Plant
		goal  []api.Lit
		index int
	}{{last, lastGoal, api.MaxStates - 1}, {behind, behindGoal, api.MaxStates}} {
		rows, b := rowsTo(c.p, api.MaxStates), byBook(c.p)
		if i := slices.IndexFunc(rows, func(r row) bool { return b.reaches(r.state, c.goal) }); i != c.index {
			t.Fatalf("the goal is reached by the row %d, not %d", i, c.index)
		}
		orders, e := pathByRows(c.p, rows, c.goal)
		wantPath(t, "at the limit", c.p, c.goal, orders, e)
	}
	if l, e := engine.Path(last, lastGoal); len(l) < 4 || e != api.OK {
		t.Error(l, e)
	}
	wantPath(t, "one too many", behind, behindGoal, nil, api.ErrLong)
}

// TestAllStates: P7.6; exactly 20000 states are not too many to say that there is no path.
func TestAllStates(t *testing.T) {
	impossible := []api.Lit{lit(0, true), lit(0, false)}
	// Two valves that are never both open have 25 states, the others 10, 10 and 8.
	exact := gates([]int{3, 8, 4, 4, 3}, bothOpen())
	if n := len(rowsTo(exact, api.MaxStates)); n != api.MaxStates {
		t.Fatalf("%d states", n)
	}
	wantPath(t, "all 20000", exact, impossible, nil, api.ErrNone)
	more := gates([]int{3, 8, 4, 4, 4}, bothOpen())
	wantPath(t, "more", more, impossible, nil, api.ErrLong)
	wantPath(t, "more, with a goal close by", more, []api.Lit{lit(4, true)}, []api.Order{open(4)}, api.OK)
	wantPath(t, "the greatest plant", utmost(), impossible, nil, api.ErrLong)
}
