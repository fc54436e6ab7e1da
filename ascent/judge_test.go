package ascent_test

import (
	"testing"

	"ullage/api"
	"ullage/ascent"
	"ullage/flight"
	"ullage/span"
)

// drifting is a task of one part of 1 s without forces and without demands.
func drifting(p, v api.Box) api.Ascent {
	t := api.Ascent{Start: api.State{P: p, V: v, M: whole(1)}, Height: all(), Speed: all(), Climb: all()}
	t.Parts = []api.Part{{Arc: api.Arc{Time: api.One, Step: api.One}}}
	return t
}

// judged checks how the cell of all ranges is judged.
func judged(t *testing.T, what string, task api.Ascent, wanted int) {
	t.Helper()
	c, e := ascent.Whole(task)
	if e != api.OK {
		t.Fatalf("%s: the task has the error %d", what, e)
	}
	n, e := ascent.Judge(task, c)
	want(t, "Judge, "+what, n, e, wanted, api.OK)
}

// demands are spans, and how what is from low to high (integers) is judged by them.
func demands(low, high int) map[api.Span]int {
	l, h := api.Num(low)*api.One, api.Num(high)*api.One
	return map[api.Span]int{
		{Lo: l, Hi: h}:                1,
		{Lo: l - 1, Hi: h + 1}:        1,
		all():                         1,
		{Lo: l + 1, Hi: h}:            0,
		{Lo: l, Hi: h - 1}:            0,
		{Lo: h, Hi: h + 1}:            0,
		{Lo: l - 1, Hi: l}:            0,
		{Lo: h + 1, Hi: api.MostNum}:  -1,
		{Lo: -api.MostNum, Hi: l - 1}: -1,
	}
}

// TestJudgeEnd: P4.2. The height, the speed and the climb count at the end.
func TestJudgeEnd(t *testing.T) {
	up, down := api.Box{2: ints(2, 6)}, api.Box{2: ints(-6, -2)}
	for a, n := range demands(-1, 2) { // of places from 4 to 6
		task := drifting(box(0, 0, 2), api.Box{2: ints(2, 4)})
		task.Planet.Radius = ints(4, 5)
		task.Height = a
		judged(t, "height", task, n)
	}
	for a, n := range demands(2, 6) {
		for _, v := range []api.Box{up, down} {
			task := drifting(box(0, 0, 10), v)
			task.Speed = a
			judged(t, "speed", task, n)
		}
	}
	for a, n := range demands(1, 12) { // places from 4 to 8, so the products are from 8 to 48
		task := drifting(box(0, 0, 2), up)
		task.Climb = a
		judged(t, "climb", task, n)
	}
	for a, n := range demands(-12, -1) {
		task := drifting(box(0, 0, 10), down)
		task.Climb = a
		judged(t, "climb downwards", task, n)
	}
}

// TestJudgeOneOfThree: P4.2. One demand that is surely not met is enough; all have to be met.
func TestJudgeOneOfThree(t *testing.T) {
	for i, wanted := range []int{0, -1} {
		for j := range 3 {
			task := drifting(box(0, 0, 2), api.Box{2: ints(2, 6)})
			other := []api.Span{whole(6), whole(1000)}[i]
			*[]*api.Span{&task.Height, &task.Speed, &task.Climb}[j] = other
			judged(t, "one of three", task, wanted)
			// Others that are not sure either change nothing.
			for k := range 3 {
				if k != j {
					*[]*api.Span{&task.Height, &task.Speed, &task.Climb}[k] = whole(5)
				}
			}
			judged(t, "one of three, others unsure", task, wanted)
		}
	}
}

// pushing is a task of one part of two steps of 2 s, with a thrust of 4; the masses in them are 6 to 8, and 4 to 6. With the level 1/2 they are 7 to 8, and 6 to 7.
func pushing() api.Ascent {
	t := drifting(box(0, 0, 1), box(0, 0, 0))
	t.Start.M = whole(8)
	t.Parts[0] = api.Part{Arc: api.Arc{Time: 4 * api.One, Step: 2 * api.One, Thrust: whole(4), Flow: whole(1)}, Level: whole(1)}
	t.Axial = api.MostNum
	return t
}

// TestJudgeAxial: P4.2. The thrust is that of the cell, and the mass that of each tube.
func TestJudgeAxial(t *testing.T) {
	for _, c := range []struct {
		limit  api.Num
		wanted int
	}{
		{0, -1},
		{api.One / 2, -1}, // 2/3 to 1 in the second tube
		{part(2, 3) - 1, -1},
		{part(2, 3), 0},
		{api.One - 1, 0},
		{api.One, 1},
		{api.MostNum, 1},
	} {
		task := pushing()
		task.Axial = c.limit
		judged(t, "axial", task, c.wanted)
		task.Density = []api.Point{{Value: whole(1)}}
		judged(t, "axial, with densities", task, c.wanted)
		// A second part, without thrust, is judged by its own.
		task.Parts = append(task.Parts, task.Parts[0])
		task.Parts[1].Level = whole(0)
		task.Bending = api.MostNum
		task.Density = nil
		judged(t, "axial, with a part behind", task, c.wanted)
		task.Parts[0], task.Parts[1] = task.Parts[1], task.Parts[0]
		judged(t, "axial, with a part in front", task, c.wanted)
	}
	// With half of the thrust it is 1/4 to 2/7, and 2/7 to 1/3.
	task := pushing()
	cell := []api.Knob{{Level: parts(1, 1, 2)}}
	task.Parts[0].Level = ints(0, 1)
	for _, c := range []struct {
		limit  api.Num
		wanted int
	}{{part(2, 7) - 1, -1}, {part(2, 7), 0}, {part(1, 3), 0}, {part(1, 3) + 1, 1}} {
		task.Axial = c.limit
		n, e := ascent.Judge(task, cell)
		want(t, "Judge of half of the thrust", n, e, c.wanted, api.OK)
	}
}

// TestJudgeAxialOnTheWay: P4.2. A tube in the middle counts, and is judged with the thrust of its own arc.
func TestJudgeAxialOnTheWay(t *testing.T) {
	task := pushing()
	strong := task.Parts[0]
	weak := api.Part{Arc: api.Arc{Time: api.One + 1, Step: api.One / 2, Thrust: whole(1)}, Level: whole(1)}
	for i := range 3 {
		task.Parts = []api.Part{weak, weak, weak}
		task.Axial = api.One / 4
		judged(t, "three weak parts", task, 1)
		task.Parts[i] = strong
		judged(t, "a strong part", task, -1)
		task.Axial = api.One
		judged(t, "a strong part that may be", task, 1)
	}
}

// TestJudgeBending: P4.2. Without densities there is no limit.
func TestJudgeBending(t *testing.T) {
	for _, c := range []struct {
		limit  api.Num
		wanted int
	}{{0, -1}, {9*api.One - 1, -1}, {9 * api.One, 0}, {18*api.One - 1, 0}, {18 * api.One, 1}, {api.MostNum, 1}} {
		task := drifting(box(0, 0, 2), box(0, 0, 6))
		task.Density = []api.Point{{Value: parts(1, 2, 2)}}
		task.Bending = c.limit
		judged(t, "bending", task, c.wanted)
		// Where there is no air it counts no longer, but where there was.
		task.Density = append(task.Density, api.Point{At: 9 * api.One, Value: parts(1, 2, 2)}, api.Point{At: 10 * api.One})
		task.Parts = append(task.Parts, task.Parts[0], task.Parts[0])
		judged(t, "bending at first", task, c.wanted)
		task.Density = nil
		judged(t, "bending without air", task, 1)
	}
}

// TestJudgeWithoutHeight: P4.2. What cannot be computed is neither met nor broken; the rest counts.
func TestJudgeWithoutHeight(t *testing.T) {
	far, centre := box(1<<20, 0, 0), box(0, 0, 0)
	fast := drifting(box(0, 0, 1), box(1<<20, 0, 0))
	fast.Parts[0].Arc.Time = api.One >> 12
	dense := drifting(box(0, 0, 1), box(0, 0, 1<<15))
	dense.Density, dense.Bending = []api.Point{{Value: whole(4)}}, api.MostNum
	for _, c := range []struct {
		what string
		task api.Ascent
		ends []int // of height, speed, climb: whether it is computed
	}{
		{"far away", drifting(far, box(1, 0, 0)), []int{0, 1, 0}},
		{"in the centre", drifting(centre, box(0, 0, 0)), []int{1, 1, 0}},
		{"fast", fast, []int{1, 0, 1}},
		{"in dense air", dense, []int{1, 1, 1}},
	} {
		judged(t, c.what, c.task, 0)
		for i, computed := range c.ends {
			task := c.task
			*[]*api.Span{&task.Height, &task.Speed, &task.Climb}[i] = whole(-1 << 20)
			judged(t, c.what+", with a demand that is not met", task, -computed)
		}
	}
	// A tube behind or in front of one without a pressure counts.
	dense.Parts = append(dense.Parts, dense.Parts[0])
	dense.Density = []api.Point{{At: 1 << 14 * api.One, Value: whole(1)}, {At: 1<<15*api.One + 2*api.One, Value: whole(4)}}
	dense.Bending = 1 << 28 * api.One
	judged(t, "into dense air", dense, 0)
	dense.Bending = 1<<28*api.One - 1<<32
	judged(t, "into dense air, beyond the limit", dense, 0)
	far2 := pushing()
	far2.Start.P = far
	far2.Axial = api.One / 2
	judged(t, "far away, beyond the limit", far2, -1)
}

// TestJudgeNoFlight: P4.2. Without a flight nothing is sure, whatever the limits are.
func TestJudgeNoFlight(t *testing.T) {
	empty := pushing()
	empty.Parts[0].Arc.Flow = whole(2)
	long := pushing()
	long.Parts[0].Arc.Step = api.One / 1024
	long.Parts[0].Arc.Time += 1
	long.Parts[0].Arc.Flow = whole(0)
	heavy := drifting(box(0, 0, 0), box(0, 0, 0))
	heavy.Planet.Mu = whole(1)
	for _, task := range []api.Ascent{empty, long, heavy} {
		for _, limit := range []api.Num{0, api.MostNum} {
			task.Axial, task.Speed = limit, all()
			judged(t, "no flight", task, 0)
			task.Speed = whole(-1)
			judged(t, "no flight, an impossible speed", task, 0)
		}
	}
	long.Parts[0].Arc.Time -= 1
	judged(t, "just not too long", long, 1)
}

// judgeByBook judges a cell, line by line as the chapter has it.
func judgeByBook(t api.Ascent, c []api.Knob) int {
	arcs, e := arcsByBook(t, c)
	if e != api.OK {
		return 0
	}
	stops, tubes, e := flight.Fly(t.Planet, arcs, t.Start)
	if e != api.OK {
		return 0
	}
	broken, met := false, true
	judge := func(a, allowed api.Span, e api.Errno) {
		if e == api.OK && (a.Lo > allowed.Hi || a.Hi < allowed.Lo) {
			broken = true
		}
		if e != api.OK || a.Lo < allowed.Lo || a.Hi > allowed.Hi {
			met = false
		}
	}
	last := stops[len(stops)-1]
	a, e := flight.Height(t.Planet, last.P)
	judge(a, t.Height, e)
	a, e = flight.Speed(last.V)
	judge(a, t.Speed, e)
	a, e = flight.Climb(last.P, last.V)
	judge(a, t.Climb, e)
	i := 0
	for _, arc := range arcs {
		for time := api.Num(0); time < arc.Time; time += arc.Step {
			a, e := span.Div(arc.Thrust, tubes[i].M)
			judge(a, api.Span{Lo: noNumber, Hi: t.Axial}, e)
			if len(t.Density) > 0 {
				a, e = flight.Pressure(t.Planet, t.Density, tubes[i])
				judge(a, api.Span{Lo: noNumber, Hi: t.Bending}, e)
			}
			i++
		}
	}
	switch {
	case broken:
		return -1
	case met:
		return 1
	}
	return 0
}

// TestJudgeByBook: P4.2; P4.8, of climbs within cells that surely fail.
func TestJudgeByBook(t *testing.T) {
	s := sample{3}
	for i, task := range tasks() {
		c, _ := ascent.Whole(task)
		counts := map[int]int{}
		for range 150 {
			cell := s.cell(c)
			if s.below(3) == 0 {
				cell = s.climb(cell)
			}
			n, e := ascent.Judge(task, cell)
			want(t, "Judge", n, e, judgeByBook(task, cell), api.OK)
			counts[n]++
			within, e := ascent.Judge(task, s.climb(cell))
			if n == -1 && (within == 1 || e != api.OK) {
				t.Errorf("a climb in a cell that fails is judged %d, error %d", within, e)
			}
		}
		if i > 0 && (counts[-1] < 5 || counts[0] < 5 || counts[1] < 5) {
			t.Errorf("task %d is judged too seldom one way: %v", i, counts)
		}
	}
}
