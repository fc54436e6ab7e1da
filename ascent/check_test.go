package ascent_test

import (
	"testing"

	"ullage/api"
	"ullage/ascent"
)

// changed returns the full task with a change.
func changed(change func(t *api.Ascent)) api.Ascent {
	t := full()
	change(&t)
	return t
}

// wrongTasks are tasks that are not valid: each has one fault.
func wrongTasks() []api.Ascent {
	var l []api.Ascent
	add := func(change func(t *api.Ascent)) { l = append(l, changed(change)) }
	for _, w := range wrongSpans() {
		add(func(t *api.Ascent) { t.Planet.Mu = w })
		add(func(t *api.Ascent) { t.Start.V[1] = w })
		add(func(t *api.Ascent) { t.Height = w })
		add(func(t *api.Ascent) { t.Speed = w })
		add(func(t *api.Ascent) { t.Climb = w })
	}
	for _, w := range append(wrongSpans(), api.Span{Lo: -api.One - 1}, api.Span{Hi: api.One + 1}, whole(2), whole(-2)) {
		for i := range 3 {
			add(func(t *api.Ascent) { t.East[i] = w })
			add(func(t *api.Ascent) { t.Up[i] = w })
		}
		for i := range 2 {
			add(func(t *api.Ascent) { t.Parts[i].Pitch = w })
			add(func(t *api.Ascent) { t.Parts[i].Level = w })
		}
	}
	add(func(t *api.Ascent) { t.Parts[1].Level.Lo = -1 })
	for _, n := range []api.Num{-1, -api.MostNum, noNumber} {
		add(func(t *api.Ascent) { t.Axial = n })
		add(func(t *api.Ascent) { t.Bending = n })
		add(func(t *api.Ascent) { t.Gap = n })
	}
	add(func(t *api.Ascent) { t.Planet.Radius.Lo = -1 })
	add(func(t *api.Ascent) { t.Start.M.Lo = 0 })
	add(func(t *api.Ascent) { t.Start.T = noNumber })
	for i := range 2 {
		add(func(t *api.Ascent) { t.Parts[i].Arc.Time = 0 })
		add(func(t *api.Ascent) { t.Parts[i].Arc.Step = -1 })
		add(func(t *api.Ascent) { t.Parts[i].Arc.Thrust.Lo = -1 })
		add(func(t *api.Ascent) { t.Parts[i].Arc.Flow.Lo = -1 })
		add(func(t *api.Ascent) { t.Parts[i].Arc.Drop.Lo = -1 })
		add(func(t *api.Ascent) { t.Parts[i].Arc.Drag[1].At = 0 })
	}
	add(func(t *api.Ascent) { t.Parts = nil })
	add(func(t *api.Ascent) { t.Parts = []api.Part{} })
	add(func(t *api.Ascent) { t.Parts = equalParts(api.MaxParts + 1) })
	add(func(t *api.Ascent) { t.Density[1].At = 0 })
	add(func(t *api.Ascent) { t.Density[0].Value = api.Span{Lo: 1} })
	add(func(t *api.Ascent) { t.Density = []api.Point{{Value: api.Span{Lo: 1}}} })
	add(func(t *api.Ascent) { t.Density = make([]api.Point, api.MaxTable+1) })
	return l
}

// equalParts returns so many parts.
func equalParts(n int) []api.Part {
	var l []api.Part
	for range n {
		l = append(l, full().Parts[0])
	}
	return l
}

// TestCheckTask: P4.1.
func TestCheckTask(t *testing.T) {
	for i, c := range append(tasks(),
		full(),
		changed(func(t *api.Ascent) { t.Parts = equalParts(1) }),
		changed(func(t *api.Ascent) { t.Parts = equalParts(api.MaxParts) }),
		changed(func(t *api.Ascent) { t.Density = nil }),
		changed(func(t *api.Ascent) { t.Density = []api.Point{} }),
		changed(func(t *api.Ascent) { t.Density = t.Density[:1] }),
		changed(func(t *api.Ascent) { t.Axial, t.Bending, t.Gap = 0, 0, 0 }),
		changed(func(t *api.Ascent) { t.Axial, t.Bending, t.Gap = api.MostNum, api.MostNum, api.MostNum }),
		changed(func(t *api.Ascent) { t.Height, t.Speed, t.Climb = all(), whole(-1), point(api.MostNum) }),
		changed(func(t *api.Ascent) { t.East, t.Up = api.Box{}, box(-1, 1, 1) }),
		changed(func(t *api.Ascent) { t.Parts[0].Pitch, t.Parts[0].Level = whole(-1), whole(0) }),
		changed(func(t *api.Ascent) { t.Parts[1].Pitch, t.Parts[1].Level = whole(1), whole(1) }),
		changed(func(t *api.Ascent) { t.Parts[0].Arc.Dir = api.Box{{Lo: 1}, whole(7), point(noNumber)} }),
		changed(func(t *api.Ascent) { t.Parts[0].Arc.Time, t.Parts[0].Arc.Step = api.MostNum, 1 }),
	) {
		if e := ascent.CheckTask(c); e != api.OK {
			t.Errorf("the valid task %d has the error %d", i, e)
		}
	}
	for i, w := range wrongTasks() {
		if e := ascent.CheckTask(w); e != api.ErrArg {
			t.Errorf("the wrong task %d has the error %d", i, e)
		}
	}
}

// wrong checks that all functions of tasks and cells refuse their arguments, without results.
func wrong(t *testing.T, what string, task api.Ascent, c []api.Knob) {
	t.Helper()
	l, e := ascent.Arcs(task, c)
	if len(l) != 0 || e != api.ErrArg {
		t.Errorf("Arcs, %s: %v, error %d", what, l, e)
	}
	cost, e := ascent.Cost(task, c)
	want(t, "Cost, "+what, cost, e, api.Span{}, api.ErrArg)
	n, e := ascent.Judge(task, c)
	want(t, "Judge, "+what, n, e, 0, api.ErrArg)
}

// TestWrongTasks: P4.1, P4.2, P4.3.
func TestWrongTasks(t *testing.T) {
	for _, w := range wrongTasks() {
		c, e := ascent.Whole(w)
		wantList(t, "Whole, a wrong task", c, e, nil, api.ErrArg)
		c = nil
		for _, p := range w.Parts {
			c = append(c, api.Knob{Pitch: p.Pitch, Level: p.Level})
		}
		wrong(t, "a wrong task", w, c)
		noFound(t, "a wrong task", w, 0, api.ErrArg)
		noFound(t, "a wrong task", w, 1, api.ErrArg)
	}
	for _, n := range []int{-1, api.MaxCells + 1, -1 << 63, 1<<63 - 1} {
		noFound(t, "a wrong budget", easy(), n, api.ErrArg)
	}
}

// noFound checks that a search has an error, and finds nothing.
func noFound(t *testing.T, what string, task api.Ascent, budget int, wanted api.Errno) {
	t.Helper()
	f, e := ascent.Search(task, budget)
	if len(f.Best) != 0 || f.Cost != (api.Span{}) || f.Bound != 0 || f.Cells != 0 || f.Left != 0 || f.Why != 0 || e != wanted {
		t.Errorf("Search, %s: %v, error %d; want error %d", what, f, e, wanted)
	}
}

// TestWrongCells: P4.1, P4.2.
func TestWrongCells(t *testing.T) {
	task := full()
	good, _ := ascent.Whole(task)
	wrong(t, "no knobs", task, nil)
	wrong(t, "too few knobs", task, good[:1])
	wrong(t, "too many knobs", task, append(good, good[0]))
	for i := range good {
		for _, out := range []func(a api.Span) api.Span{
			func(a api.Span) api.Span { return api.Span{Lo: a.Lo - 1, Hi: a.Hi} },
			func(a api.Span) api.Span { return api.Span{Lo: a.Lo, Hi: a.Hi + 1} },
			func(a api.Span) api.Span { return point(a.Hi + 1) },
			func(a api.Span) api.Span { return point(a.Lo - 1) },
			func(a api.Span) api.Span { return api.Span{Lo: a.Hi, Hi: a.Lo} },
			func(a api.Span) api.Span { return api.Span{Lo: noNumber, Hi: a.Hi} },
			func(a api.Span) api.Span { return point(noNumber) },
		} {
			c, _ := ascent.Whole(task)
			c[i].Pitch = out(c[i].Pitch)
			wrong(t, "a wrong pitch", task, c)
			c, _ = ascent.Whole(task)
			c[i].Level = out(c[i].Level)
			wrong(t, "a wrong level", task, c)
		}
	}
}
