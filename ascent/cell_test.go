package ascent_test

import (
	"slices"
	"testing"

	"ullage/api"
	"ullage/ascent"
	"ullage/span"
)

// TestWhole: P4.1.
func TestWhole(t *testing.T) {
	for _, task := range append(tasks(), full()) {
		var wanted []api.Knob
		for _, p := range task.Parts {
			wanted = append(wanted, api.Knob{Pitch: p.Pitch, Level: p.Level})
		}
		c, e := ascent.Whole(task)
		wantList(t, "Whole", c, e, wanted, api.OK)
	}
}

// sameArc reports whether two arcs are the same, with their tables.
func sameArc(a, b api.Arc) bool {
	return a.Time == b.Time && a.Step == b.Step && a.Thrust == b.Thrust && a.Flow == b.Flow && a.Dir == b.Dir && a.Drop == b.Drop && slices.Equal(a.Drag, b.Drag)
}

// arcsByBook is the arcs of a cell, line by line as the chapter has them.
func arcsByBook(t api.Ascent, c []api.Knob) ([]api.Arc, api.Errno) {
	var l []api.Arc
	for i, k := range c {
		a := t.Parts[i].Arc
		a.Thrust, _ = span.Mul(a.Thrust, k.Level)
		a.Flow, _ = span.Mul(a.Flow, k.Level)
		cos, sin, _ := span.Turn(k.Pitch)
		for j := range 3 {
			east, _ := span.Mul(cos, t.East[j])
			up, _ := span.Mul(sin, t.Up[j])
			sum, _ := span.Add(east, up)
			d, e := span.Meet(sum, api.Span{Lo: -api.One, Hi: api.One})
			if e != api.OK {
				return nil, e
			}
			a.Dir[j] = d
		}
		l = append(l, a)
	}
	return l, api.OK
}

// TestArcs: P4.1.
func TestArcs(t *testing.T) {
	s := sample{1}
	failed := 0
	for i, task := range append(tasks(), full(), full(), full()) {
		c, _ := ascent.Whole(task)
		for range 200 {
			if i >= 3 {
				for j := range 3 {
					task.East[j], task.Up[j] = s.within(ints(-1, 1)), s.within(ints(-1, 1))
				}
			}
			c := s.cell(c)
			wanted, wantedE := arcsByBook(task, c)
			if wantedE != api.OK {
				failed++
			}
			got, e := ascent.Arcs(task, c)
			if e != wantedE || !slices.EqualFunc(got, wanted, sameArc) {
				t.Fatalf("the arcs of %v are %v, error %d; want %v, error %d", c, got, e, wanted, wantedE)
			}
		}
	}
	if failed == 0 || failed > 300 {
		t.Errorf("%d cells have no directions", failed)
	}
}

// TestArcsOfPoints: P4.1, by numbers.
func TestArcsOfPoints(t *testing.T) {
	task := full()
	task.East, task.Up = box(1, 0, -1), box(0, -1, 0)
	c := []api.Knob{{Pitch: parts(-1, -1, 1), Level: parts(0, 1, 2)}, {Pitch: whole(0), Level: parts(1, 1, 2)}}
	first, second := task.Parts[0].Arc, task.Parts[1].Arc
	first.Thrust, first.Flow, first.Dir = ints(0, 1), parts(0, 1, 2), box(0, 1, 0)
	second.Thrust, second.Flow, second.Dir = parts(1, 2, 2), parts(0, 1, 2), box(1, 0, -1)
	l, e := ascent.Arcs(task, c)
	if e != api.OK || len(l) != 2 || !sameArc(l[0], first) || !sameArc(l[1], second) {
		t.Errorf("the arcs are %v, error %d", l, e)
	}
}

// steep returns a task with directions that have a component of more than 1 at a pitch of 1/2, and none at 0.
func steep() api.Ascent {
	t := easy()
	t.East = box(1, 1, 0)
	t.Up = box(0, 1, 1)
	t.Parts[0].Pitch = parts(0, 1, 2)
	return t
}

// TestNoDirection: P4.1, P4.2. A direction of more than 1 is an error of the arcs, not of the cost.
func TestNoDirection(t *testing.T) {
	task := steep()
	cell, _ := ascent.Whole(task)
	if _, e := ascent.Arcs(task, cell); e != api.OK {
		t.Errorf("a direction that may be less than 1 has the error %d", e)
	}
	cell[0].Pitch = parts(1, 1, 2)
	l, e := ascent.Arcs(task, cell)
	if len(l) != 0 || e != api.ErrNone {
		t.Errorf("a direction of more than 1: %v, error %d", l, e)
	}
	cost, e := ascent.Cost(task, cell)
	want(t, "Cost without a direction", cost, e, ints(1, 2), api.OK)
	n, e := ascent.Judge(task, cell)
	want(t, "Judge without a direction", n, e, 0, api.OK)
	task.Axial = 0
	n, e = ascent.Judge(task, cell)
	want(t, "Judge without a direction, with a limit", n, e, 0, api.OK)
}

// costByBook is the cost of a cell, line by line as the chapter has it.
func costByBook(t api.Ascent, c []api.Knob) api.Span {
	var l []api.Span
	for i, k := range c {
		flow, _ := span.Mul(t.Parts[i].Arc.Flow, k.Level)
		burnt, _ := span.Mul(flow, point(t.Parts[i].Arc.Time))
		l = append(l, burnt)
	}
	sum, _ := span.Sum(l)
	return sum
}

// TestCost: P4.1; P4.8, of cells within others.
func TestCost(t *testing.T) {
	s := sample{2}
	for _, task := range append(tasks(), full()) {
		c, _ := ascent.Whole(task)
		for range 300 {
			outer := s.cell(c)
			inner := s.cell(outer)
			a, e := ascent.Cost(task, outer)
			want(t, "Cost", a, e, costByBook(task, outer), api.OK)
			b, e := ascent.Cost(task, inner)
			if e != api.OK || !span.Within(b, a) {
				t.Fatalf("%v costs %v, error %d, and %v within it costs %v", outer, a, e, inner, b)
			}
		}
	}
	c, _ := ascent.Whole(easy())
	cost, e := ascent.Cost(easy(), c)
	want(t, "the example", cost, e, ints(1, 2), api.OK)
}

// TestCostTooGreat: P4.1, P4.3. It is an error of the cost, not of the arcs.
func TestCostTooGreat(t *testing.T) {
	product, sum := full(), full()
	product.Parts[1].Arc.Flow, product.Parts[1].Arc.Time = whole(1<<16), 1<<16*api.One
	for i := range sum.Parts {
		sum.Parts[i].Arc.Flow, sum.Parts[i].Arc.Time, sum.Parts[i].Level = whole(1<<15), 1<<15*api.One, whole(1)
	}
	for _, task := range []api.Ascent{product, sum} {
		c, _ := ascent.Whole(task)
		cost, e := ascent.Cost(task, c)
		want(t, "Cost that is too great", cost, e, api.Span{}, api.ErrRange)
		if l, e := ascent.Arcs(task, c); e != api.OK || len(l) != 2 {
			t.Errorf("Arcs of a cost that is too great: error %d", e)
		}
		n, e := ascent.Judge(task, c)
		want(t, "Judge of a cost that is too great", n, e, 0, api.OK)
		for _, budget := range []int{0, 1, api.MaxCells} {
			noFound(t, "a cost that is too great", task, budget, api.ErrRange)
		}
	}
	// Of a part of the cell the cost fits.
	c, _ := ascent.Whole(product)
	c[0].Level, c[1].Level = whole(0), parts(1, 1, 4)
	cost, e := ascent.Cost(product, c)
	want(t, "Cost that is not too great", cost, e, whole(1<<30), api.OK)
}

// TestGreatestControls: P4.1. Neither a thrust nor a flow at a level leaves its range.
func TestGreatestControls(t *testing.T) {
	task := easy()
	most := api.Span{Lo: api.MostNum - 1, Hi: api.MostNum}
	task.Parts[0].Arc.Thrust, task.Parts[0].Arc.Flow, task.Parts[0].Arc.Time = most, most, 1
	c, _ := ascent.Whole(task)
	l, e := ascent.Arcs(task, c)
	wanted := api.Span{Lo: api.MostNum / 2, Hi: api.MostNum}
	if e != api.OK || l[0].Thrust != wanted || l[0].Flow != wanted {
		t.Errorf("the arcs are %v, error %d", l, e)
	}
}
