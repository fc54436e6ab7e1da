package ascent_test

import (
	"slices"
	"testing"

	"ullage/api"
	"ullage/ascent"
	"ullage/span"
)

// known is a cell of a search by the book.
type known struct {
	cell []api.Knob
	low  api.Num
	born int
	done bool
}

// searchByBook searches, line by line as the chapter has it, with cells and climbs that are judged by Judge.
func searchByBook(t api.Ascent, budget int) api.Found {
	var f api.Found
	var l []known
	born := 0
	add := func(c []api.Knob) {
		cost, _ := ascent.Cost(t, c)
		l = append(l, known{cell: c, low: cost.Lo, born: born})
		born++
	}
	c, _ := ascent.Whole(t)
	add(c)
	for {
		f.Bound, f.Left = api.MostNum, len(l)
		next := -1
		for i, k := range l {
			f.Bound = min(f.Bound, k.low)
			if !k.done && (next < 0 || k.low < l[next].low || k.low == l[next].low && k.born < l[next].born) {
				next = i
			}
		}
		if next < 0 {
			f.Why = 1
			return f
		}
		if f.Best != nil && f.Cost.Hi-f.Bound <= t.Gap {
			f.Why = 0
			return f
		}
		if f.Cells == budget {
			f.Why = 2
			return f
		}
		f.Cells++
		c := l[next].cell
		if n, _ := ascent.Judge(t, c); n == -1 {
			l = slices.Delete(l, next, next+1)
			continue
		}
		climb := middle(c)
		n, _ := ascent.Judge(t, climb)
		cost, _ := ascent.Cost(t, climb)
		if n == 1 && (f.Best == nil || cost.Hi < f.Cost.Hi) {
			f.Best, f.Cost = climb, cost
		}
		low, high, ok := halves(c)
		if !ok {
			l[next].done = true
			continue
		}
		l = slices.Delete(l, next, next+1)
		add(low)
		add(high)
	}
}

// middle returns the climb of the Mids.
func middle(c []api.Knob) []api.Knob {
	m := slices.Clone(c)
	for i := range m {
		pitch, _ := span.Mid(m[i].Pitch)
		level, _ := span.Mid(m[i].Level)
		m[i] = api.Knob{Pitch: point(pitch), Level: point(level)}
	}
	return m
}

// halves splits the widest span of a cell, the first one of several.
func halves(c []api.Knob) (low, high []api.Knob, ok bool) {
	low, high = slices.Clone(c), slices.Clone(c)
	var where, lowHalf, highHalf *api.Span
	for i := range c {
		for j, a := range []*api.Span{&c[i].Pitch, &c[i].Level} {
			if where == nil || a.Hi-a.Lo > where.Hi-where.Lo {
				where = a
				lowHalf = []*api.Span{&low[i].Pitch, &low[i].Level}[j]
				highHalf = []*api.Span{&high[i].Pitch, &high[i].Level}[j]
			}
		}
	}
	*lowHalf, *highHalf, _ = span.Split(*where)
	return low, high, where.Hi-where.Lo >= 2
}

// same reports whether two searches found the same.
func same(f, g api.Found) bool {
	return slices.Equal(f.Best, g.Best) && f.Cost == g.Cost && f.Bound == g.Bound && f.Cells == g.Cells && f.Left == g.Left && f.Why == g.Why
}

// narrow returns the easy task with ranges of a few numbers, of which not all reach.
func narrow(pitch, level api.Num) api.Ascent {
	t := easy()
	t.Parts[0].Pitch = api.Span{Lo: api.One - pitch, Hi: api.One}
	t.Parts[0].Level = api.Span{Lo: api.One - level, Hi: api.One}
	return t
}

// TestSearchByBook: P4.3, with all kinds of ends, and after each budget.
func TestSearchByBook(t *testing.T) {
	budgets := []int{0, 1, 2, 3, 4, 5, 6, 7, 8, 9, 10, 11, 12, 20, 40, 64}
	why := map[int]int{}
	for i, task := range append(tasks(), narrow(0, 0), narrow(0, 1), narrow(1, 0), narrow(2, 0), narrow(3, 4), narrow(7, 2), steep()) {
		for _, gap := range []api.Num{0, 1, api.One / 8, api.MostNum} {
			task.Gap = gap
			for _, budget := range budgets {
				f, e := ascent.Search(task, budget)
				if wanted := searchByBook(task, budget); e != api.OK || !same(f, wanted) {
					t.Fatalf("task %d, gap %d, budget %d: %v, error %d; want %v", i, gap, budget, f, e, wanted)
				}
				why[f.Why]++
			}
		}
	}
	if why[0] < 20 || why[1] < 20 || why[2] < 20 {
		t.Errorf("the searches end %v", why)
	}
}

// TestSearchEnds: P4.3, by numbers.
func TestSearchEnds(t *testing.T) {
	full := []api.Knob{{Pitch: point(api.One), Level: point(api.One)}}
	impossible := easy()
	impossible.Speed = whole(-1)
	centre := narrow(0, 0)
	centre.Planet.Mu, centre.Start.P = whole(1), box(0, 0, 0)
	for _, c := range []struct {
		what   string
		task   api.Ascent
		budget int
		wanted api.Found
	}{
		{"no budget", easy(), 0, api.Found{Bound: api.One, Left: 1, Why: 2}},
		{"a single climb", narrow(0, 0), 9, api.Found{Best: full, Cost: whole(2), Bound: 2 * api.One, Cells: 1, Left: 1, Why: 1}},
		{"a single climb, the budget is used up", narrow(0, 0), 1, api.Found{Best: full, Cost: whole(2), Bound: 2 * api.One, Cells: 1, Left: 1, Why: 1}},
		{"a single climb, no budget", narrow(0, 0), 0, api.Found{Bound: 2 * api.One, Left: 1, Why: 2}},
		{"two climbs", narrow(1, 0), 9, api.Found{Best: []api.Knob{{Pitch: point(api.One - 1), Level: point(api.One)}}, Cost: whole(2), Bound: 2 * api.One, Cells: 1, Left: 1, Why: 1}},
		{"three climbs of the same cost", narrow(2, 0), 9, api.Found{Best: []api.Knob{{Pitch: point(api.One - 1), Level: point(api.One)}}, Cost: whole(2), Bound: 2 * api.One, Cells: 1, Left: 2}},
		{"none that reaches", impossible, 1, api.Found{Bound: api.MostNum, Cells: 1, Why: 1}},
		{"none that can be flown", centre, 3, api.Found{Bound: 2 * api.One, Cells: 1, Left: 1, Why: 1}},
	} {
		f, e := ascent.Search(c.task, c.budget)
		if e != api.OK || !same(f, c.wanted) {
			t.Errorf("%s: %v, error %d; want %v", c.what, f, e, c.wanted)
		}
	}
}

// TestAnyTask: P0.1, P4.1 to P4.3. Of any valid task, all is as the chapter has it.
func TestAnyTask(t *testing.T) {
	s := sample{15}
	judged, costly, why := map[int]int{}, 0, map[int]int{}
	for range 4000 {
		task := s.anything()
		c, e := ascent.Whole(task)
		if e != api.OK {
			t.Fatalf("the task %v has the error %d", task, e)
		}
		wantedArcs, wantedE := arcsByBook(task, c)
		l, e := ascent.Arcs(task, c)
		if e != wantedE || !slices.EqualFunc(l, wantedArcs, sameArc) {
			t.Fatalf("the arcs of %v are %v, error %d", task, l, e)
		}
		n, e := ascent.Judge(task, c)
		want(t, "Judge", n, e, judgeByBook(task, c), api.OK)
		judged[n]++
		if _, e := ascent.Cost(task, c); e != api.OK {
			costly++
			noFound(t, "a cost that is too great", task, 7, e)
			continue
		}
		f, e := ascent.Search(task, 7)
		if wanted := searchByBook(task, 7); e != api.OK || !same(f, wanted) {
			t.Fatalf("%v: %v, error %d; want %v", task, f, e, wanted)
		}
		why[f.Why]++
	}
	if judged[-1] < 100 || judged[0] < 100 || judged[1] < 100 || costly == 0 || why[0] < 50 || why[1] < 50 || why[2] < 50 {
		t.Errorf("judged %v, %d costs too great, ended %v", judged, costly, why)
	}
}

// TestSearchOrder: P4.3. Of several cells with the same Low the one that came first is looked at; of several ranges as wide the first one is split.
func TestSearchOrder(t *testing.T) {
	task := easy()
	p := task.Parts[0]
	p.Arc.Flow = whole(0) // all climbs cost the same
	p.Pitch, p.Level = parts(0, 1, 1), parts(0, 1, 1)
	task.Parts = []api.Part{p, p}
	task.Gap = 0
	// Only a climb that thrusts almost straight up, in both parts, comes to the height.
	for _, height := range []api.Span{all(), parts(3, 5, 1), parts(2, 3, 1), parts(30, 31, 10)} {
		task.Height = height
		for budget := range 40 {
			f, e := ascent.Search(task, budget)
			if wanted := searchByBook(task, budget); e != api.OK || !same(f, wanted) {
				t.Fatalf("height %v, budget %d: %v, error %d; want %v", height, budget, f, e, wanted)
			}
		}
	}
}

// TestSearchFollows: P0.3, P4.8.
func TestSearchFollows(t *testing.T) {
	s := sample{4}
	for i, task := range tasks() {
		c, _ := ascent.Whole(task)
		var last api.Found
		for _, budget := range []int{0, 1, 5, 20, 60, 128} {
			f, e := ascent.Search(task, budget)
			if e != api.OK {
				t.Fatalf("task %d: error %d", i, e)
			}
			if f.Bound < last.Bound || len(last.Best) > 0 && (len(f.Best) == 0 || f.Cost.Hi > last.Cost.Hi) {
				t.Errorf("task %d: with the budget %d it finds %v, less than %v", i, budget, f, last)
			}
			last = f
			if len(f.Best) == 0 {
				continue
			}
			n, _ := ascent.Judge(task, f.Best)
			cost, e := ascent.Cost(task, f.Best)
			want(t, "the best climb's cost", cost, e, f.Cost, api.OK)
			if !slices.Equal(f.Best, middle(f.Best)) || n != 1 {
				t.Errorf("task %d: the best climb %v is judged %d", i, f.Best, n)
			}
			if f.Why == 0 && f.Cost.Hi-f.Bound > task.Gap {
				t.Errorf("task %d: the gap is %d", i, f.Cost.Hi-f.Bound)
			}
		}
		if len(last.Best) == 0 {
			t.Errorf("task %d has no best climb", i)
		}
		reach := 0
		for range 200 {
			climb := s.climb(c)
			if n, _ := ascent.Judge(task, climb); n == 1 {
				reach++
				if cost, _ := ascent.Cost(task, climb); cost.Lo < last.Bound {
					t.Errorf("task %d: the climb %v costs %v, less than the bound %d", i, climb, cost, last.Bound)
				}
			}
		}
		if reach == 0 {
			t.Errorf("task %d: no climb reaches", i)
		}
	}
}

// TestSearchNothing: P4.8. If no cell is left no climb reaches.
func TestSearchNothing(t *testing.T) {
	s := sample{5}
	task := hop()
	task.Height = parts(33, 34, 4)
	f, e := ascent.Search(task, api.MaxCells)
	if e != api.OK || f.Why != 1 || f.Left != 0 || len(f.Best) != 0 || f.Bound != api.MostNum || f.Cost != (api.Span{}) || f.Cells < 2 {
		t.Fatalf("it found %v, error %d", f, e)
	}
	c, _ := ascent.Whole(task)
	for range 200 {
		climb := s.climb(c)
		if n, _ := ascent.Judge(task, climb); n == 1 {
			t.Errorf("the climb %v reaches", climb)
		}
	}
}

// TestTasksOnlyRead: P4.7.
func TestTasksOnlyRead(t *testing.T) {
	task, again := full(), full()
	c, _ := ascent.Whole(task)
	first, _ := ascent.Whole(task)
	l, e := ascent.Arcs(task, c)
	if e != api.OK {
		t.Fatalf("error %d", e)
	}
	for i := range l {
		clear(l[i].Drag)
	}
	for i := range task.Parts {
		if !sameArc(task.Parts[i].Arc, again.Parts[i].Arc) {
			t.Errorf("the arc %d is changed", i)
		}
	}
	task.Parts[1].Arc.Drag = task.Parts[0].Arc.Drag
	l, _ = ascent.Arcs(task, c)
	clear(l[0].Drag)
	if !slices.Equal(l[1].Drag, table()) {
		t.Error("two tables share their memory")
	}
	clear(c)
	for i, p := range task.Parts {
		if p.Pitch != again.Parts[i].Pitch || p.Level != again.Parts[i].Level || first[i].Pitch != p.Pitch {
			t.Errorf("the ranges of the part %d are changed", i)
		}
	}
	task = narrow(0, 0)
	f, _ := ascent.Search(task, 9)
	clear(f.Best)
	g, e := ascent.Search(task, 9)
	if e != api.OK || len(g.Best) != 1 || g.Best[0] == f.Best[0] || task.Parts[0].Level != whole(1) {
		t.Errorf("after a change of a result it finds %v, error %d", g, e)
	}
	task = hop()
	c, _ = ascent.Whole(task)
	before := slices.Clone(c)
	for range 2 {
		if _, e := ascent.Judge(task, c); e != api.OK || !slices.Equal(c, before) {
			t.Errorf("Judge changes its cell, error %d", e)
		}
		if _, e := ascent.Cost(task, c); e != api.OK || !slices.Equal(c, before) {
			t.Errorf("Cost changes its cell, error %d", e)
		}
	}
	if _, e := ascent.Search(task, 20); e != api.OK || !slices.Equal(task.Density, hop().Density) || !sameArc(task.Parts[0].Arc, hop().Parts[0].Arc) {
		t.Errorf("Search changes its task, error %d", e)
	}
}
