package avionics_test

import (
	"slices"
	"testing"

	"ullage/api"
	"ullage/avionics"
)

// some returns n messages that are valid together.
func some(n int) []api.Message {
	var l []api.Message
	for i := range n {
		l = append(l, message(i, 1, 20, 20))
	}
	return l
}

// TestMessages: P8.3; which lists of messages are valid.
func TestMessages(t *testing.T) {
	longest, double := some(2), some(2)
	longest[0].Name, longest[1].Name = name(0, api.MaxName), name(1, api.MaxName)
	double[1].Name = double[0].Name
	for what, l := range map[string][]api.Message{
		"one": some(1), "16": some(api.MaxMessages), "long names": longest, "a long period": messages([3]int{1, 1000, 1}),
		"a size": messages([3]int{7, 9, 7}), "the greatest size": messages([3]int{1000, 1000, 1000}), "any bytes": {{Name: "\xff", Size: 1, Period: 1, Deadline: 1}},
	} {
		wantCycleError(t, what, l, api.OK)
	}
	for what, l := range map[string][]api.Message{
		"none": nil, "empty": {}, "17": some(api.MaxMessages + 1), "the same name": double,
		"no name":     {{Size: 1, Period: 4, Deadline: 4}},
		"a long name": {{Name: name(0, api.MaxName+1), Size: 1, Period: 4, Deadline: 4}},
		"period 0":    messages([3]int{0, 0, 0}), "deadline 0": messages([3]int{0, 4, 0}), "size 0": messages([3]int{0, 4, 4}),
		"period 1001": messages([3]int{1, 1001, 1}), "a late deadline": messages([3]int{1, 4, 5}), "a great size": messages([3]int{4, 4, 3}),
		"negative": messages([3]int{-1, -1, -1}), "period -4": messages([3]int{1, -4, 1}), "deadline -1": messages([3]int{-2, 4, -1}), "size -1": messages([3]int{-1, 4, 4}),
		"least": messages([3]int{-1 << 63, -1 << 63, -1 << 63}), "greatest": messages([3]int{1<<63 - 1, 1<<63 - 1, 1<<63 - 1}),
		"the second": messages([3]int{1, 4, 4}, [3]int{3, 4, 2}), "beside a long cycle": messages([3]int{1, 999, 1}, [3]int{1, 1000, 1}, [3]int{0, 1, 1}),
		"beside many jobs": messages([3]int{1, 1, 1}, [3]int{1, 1000, 1}, [3]int{1, 1, 2}),
	} {
		wantCycleError(t, what, l, api.ErrArg)
	}
}

// TestCycle: P8.3; the least common multiple, and its limits.
func TestCycle(t *testing.T) {
	for _, c := range []struct {
		periods []int
		cycle   int
		e       api.Errno
	}{
		{[]int{1}, 1, api.OK}, {[]int{6, 4}, 12, api.OK}, {[]int{4, 6, 10}, 60, api.OK}, {[]int{5, 5, 5}, 5, api.OK}, {[]int{12, 4, 3}, 12, api.OK},
		{[]int{1000}, 1000, api.OK}, {[]int{8, 125}, 1000, api.OK}, {[]int{8, 250}, 1000, api.OK}, {[]int{500, 1000}, 1000, api.OK}, {[]int{37, 27}, 999, api.OK},
		{[]int{7, 143}, 0, api.ErrLong}, {[]int{999, 1000}, 0, api.ErrLong}, {[]int{8, 126, 125}, 0, api.ErrLong}, {[]int{500, 3}, 0, api.ErrLong},
		{[]int{997, 991, 983, 977, 971, 967, 953, 947, 941, 937, 929, 919, 911, 907, 887, 883}, 0, api.ErrLong},
		{[]int{256, 256}, 256, api.OK}, {[]int{1, 255}, 255, api.OK}, {[]int{1, 256}, 0, api.ErrLong}, {[]int{2, 512}, 0, api.ErrLong}, {[]int{2, 510}, 510, api.OK},
		{[]int{4, 1000, 1000, 1000, 1000, 1000, 1000}, 1000, api.OK}, {[]int{4, 1000, 1000, 1000, 1000, 1000, 1000, 1000}, 0, api.ErrLong},
	} {
		var l []api.Message
		for i, p := range c.periods {
			l = append(l, message(i, 1, p, p))
		}
		if n, e := avionics.Cycle(l); n != c.cycle || e != c.e {
			t.Errorf("cycle of %v: %d, error %d", c.periods, n, e)
		}
		if c.e != api.OK {
			wantCycleError(t, "a long cycle", l, c.e)
		}
	}
	if n, e := avionics.Cycle(messages([3]int{1, 1, 1})); n != 1 || e != api.OK {
		t.Error(n, e)
	}
}

// TestTables: P8.3; tables of messages, also the chapter's.
func TestTables(t *testing.T) {
	wantTable(t, messages([3]int{1, 2, 2}, [3]int{2, 4, 4}), []int{0, 1, 0, 1})
	wantTable(t, messages([3]int{1, 1, 1}), []int{0})
	wantTable(t, messages([3]int{1, 3, 2}), []int{0, -1, -1})
	wantTable(t, messages([3]int{2, 4, 4}, [3]int{2, 4, 4}), []int{0, 0, 1, 1})
	wantTable(t, messages([3]int{2, 4, 4}, [3]int{1, 4, 3}), []int{1, 0, 0, -1})
	wantTable(t, messages([3]int{1, 6, 6}, [3]int{1, 3, 3}, [3]int{1, 6, 3}), []int{1, 2, 0, 1, -1, -1})
	wantTable(t, messages([3]int{3, 6, 6}, [3]int{1, 2, 1}), []int{1, 0, 1, 0, 1, 0})
	wantTable(t, messages([3]int{1, 2, 2}, [3]int{1, 4, 4}, [3]int{1, 4, 3}), []int{0, 2, 0, 1})
	wantTable(t, messages([3]int{4, 8, 8}, [3]int{1, 4, 1}), []int{1, 0, 0, 0, 1, 0, -1, -1})
	wantTable(t, messages([3]int{3, 4, 4}, [3]int{1, 4, 4}), []int{0, 0, 0, 1})
}

// TestWitnesses: P8.3; the least end, and then the greatest beginning.
func TestWitnesses(t *testing.T) {
	wantWitness(t, messages([3]int{2, 2, 2}, [3]int{1, 4, 4}), 0, 4)
	wantWitness(t, messages([3]int{1, 1, 1}, [3]int{1, 1, 1}), 0, 1)
	wantWitness(t, messages([3]int{1, 2, 1}, [3]int{1, 2, 1}), 0, 1)
	wantWitness(t, messages([3]int{1, 4, 2}, [3]int{1, 6, 1}, [3]int{1, 12, 2}), 0, 2)
	wantWitness(t, messages([3]int{2, 6, 2}, [3]int{1, 4, 1}), 0, 2)
	wantWitness(t, messages([3]int{1, 6, 6}, [3]int{2, 3, 2}, [3]int{1, 6, 3}, [3]int{1, 2, 2}), 0, 2)
	wantWitness(t, messages([3]int{1, 2, 2}, [3]int{4, 6, 5}, [3]int{4, 12, 12}), 0, 5)
	wantWitness(t, messages([3]int{3, 9, 6}, [3]int{2, 3, 3}), 0, 6)
	wantWitness(t, messages([3]int{1, 3, 3}, [3]int{3, 4, 4}), 0, 12)
	wantWitness(t, messages([3]int{1, 3, 3}, [3]int{1, 4, 4}, [3]int{1, 2, 2}), 0, 12)
	wantWitness(t, messages([3]int{2, 3, 3}, [3]int{2, 5, 5}), 0, 15)
	wantWitness(t, messages([3]int{3, 4, 4}, [3]int{1, 3, 3}, [3]int{1, 12, 1}), 0, 4)
	wantWitness(t, messages([3]int{250, 500, 250}, [3]int{500, 1000, 1000}, [3]int{1, 1000, 1000}), 0, 1000)
}

// TestServes: P8.4; which tables serve messages.
func TestServes(t *testing.T) {
	l := messages([3]int{1, 2, 2}, [3]int{1, 4, 3})
	for _, c := range []struct {
		table  []int
		wanted bool
	}{
		{[]int{0, 1, 0, -1}, true}, {[]int{1, 0, 0, -1}, true}, {[]int{0, 1, -1, 0}, true}, {[]int{-1, 0, 1, 0}, true},
		{[]int{0, -1, 0, 1}, false}, {[]int{0, 0, 1, 0}, false}, {[]int{0, 1, -1, -1}, false}, {[]int{0, 1, 0, 1}, false}, {[]int{0, 1, 0, 0}, false},
		{[]int{0, 1, 0, 2}, false}, {[]int{0, 1, 0, -2}, false}, {[]int{0, 1, 0, 1<<63 - 1}, false}, {[]int{0, 1, 0, -1 << 63}, false}, {[]int{-1, -1, 0, 1}, false},
		{[]int{1, 1, 0, 0}, false}, {[]int{0, -1, 0, -1}, false}, {[]int{-1, -1, -1, -1}, false},
		{nil, false}, {[]int{0, 1, 0}, false}, {[]int{0, 1, 0, -1, -1}, false}, {[]int{0, 1, 0, -1, 0}, false}, {[]int{0, 1, 0, -1, 7}, false}, {[]int{0, 1, 0, -1, 0, 1, 0, -1}, false},
	} {
		if is := avionics.Serves(l, c.table); is != c.wanted {
			t.Errorf("%v serves: %v", c.table, is)
		}
	}
	if !avionics.Serves(messages([3]int{1, 3, 2}), []int{-1, 0, -1}) || avionics.Serves(messages([3]int{1, 3, 2}), []int{-1, -1, 0}) {
		t.Error("a deadline")
	}
}

// TestBusMemory: R4; no message and no table is changed, and a table is new each time.
func TestBusMemory(t *testing.T) {
	l := messages([3]int{2, 4, 4}, [3]int{1, 2, 1})
	before := slices.Clone(l)
	table, _, _ := avionics.Schedule(l)
	again := slices.Clone(table)
	avionics.Cycle(l)
	if !avionics.Serves(l, table) || !slices.Equal(table, again) || !slices.Equal(l, before) {
		t.Error(table, l)
	}
	table[0] = 7
	wantTable(t, l, again)
}

// plainJob is a job: so many slots from its beginning to below its end.
type plainJob struct{ message, begin, end, size int }

// plainJobs returns the jobs of messages whose cycle is known.
func plainJobs(l []api.Message, cycle int) []plainJob {
	var jobs []plainJob
	for r := range cycle {
		for i, m := range l {
			if r%m.Period == 0 {
				jobs = append(jobs, plainJob{i, r, r + m.Deadline, m.Size})
			}
		}
	}
	return jobs
}

// plainTable makes a table as the chapter says, word by word.
func plainTable(jobs []plainJob, cycle int) ([]int, bool) {
	got := make([]int, len(jobs))
	table := make([]int, cycle)
	for slot := range table {
		best := -1
		for i, j := range jobs {
			if got[i] < j.size && j.end <= slot {
				return nil, false
			}
			if got[i] == j.size || j.begin > slot {
				continue
			}
			if best < 0 || j.end < jobs[best].end || j.end == jobs[best].end && j.message < jobs[best].message {
				best = i
			}
		}
		table[slot] = -1
		if best >= 0 {
			got[best]++
			table[slot] = jobs[best].message
		}
	}
	for i, j := range jobs {
		if got[i] < j.size {
			return nil, false
		}
	}
	return table, true
}

// plainWitness looks at all pairs.
func plainWitness(jobs []plainJob, cycle int) (witness [2]int, ok bool) {
	for b := range cycle + 1 {
		for a := b - 1; a >= 0; a-- {
			if slotsWithin(jobs, a, b) > b-a {
				return [2]int{a, b}, true
			}
		}
	}
	return [2]int{}, false
}

// slotsWithin returns how many slots the jobs have that lie from a to b.
func slotsWithin(jobs []plainJob, a, b int) int {
	n := 0
	for _, j := range jobs {
		if j.begin >= a && j.end <= b {
			n += j.size
		}
	}
	return n
}

// isPossible reports whether any table serves jobs: each slot that one needs looks for a slot of its own, and moves others away.
func isPossible(jobs []plainJob, cycle int) bool {
	owner := slices.Repeat([]int{-1}, cycle)
	var settle func(i int, tried []bool) bool
	settle = func(i int, tried []bool) bool {
		for slot := jobs[i].begin; slot < jobs[i].end; slot++ {
			if tried[slot] {
				continue
			}
			tried[slot] = true
			if owner[slot] < 0 || settle(owner[slot], tried) {
				owner[slot] = i
				return true
			}
		}
		return false
	}
	for i, j := range jobs {
		for range j.size {
			if !settle(i, make([]bool, cycle)) {
				return false
			}
		}
	}
	return true
}

// plainServes reports whether a table of the right length serves jobs, slot by slot.
func plainServes(jobs []plainJob, table []int) bool {
	taken := make([]int, len(jobs))
slots:
	for slot, m := range table {
		for i, j := range jobs {
			if j.message == m && j.begin <= slot && slot < j.end {
				taken[i]++
				continue slots
			}
		}
		if m != -1 {
			return false
		}
	}
	for i, j := range jobs {
		if taken[i] != j.size {
			return false
		}
	}
	return true
}

// TestSchedulesByWord: P8.3, P8.9; tables and witnesses against the chapter word by word, and against all tables that there could be.
func TestSchedulesByWord(t *testing.T) {
	r := &sample{4}
	made, failed := 0, 0
	for range 6000 {
		l := r.messages(5, []int{6, 8, 12, 24, 30, 60}[r.below(6)])
		cycle, e := avionics.Cycle(l)
		if e != api.OK {
			t.Fatal(e, l)
		}
		jobs := plainJobs(l, cycle)
		table, ok := plainTable(jobs, cycle)
		witness, proved := plainWitness(jobs, cycle)
		if possible := isPossible(jobs, cycle); ok != possible || proved == possible {
			t.Fatalf("the chapter contradicts itself for %v", l)
		}
		if ok {
			made++
			wantTable(t, l, table)
			continue
		}
		failed++
		wantWitness(t, l, witness[0], witness[1])
		_, w, _ := avionics.Schedule(l)
		if slotsWithin(jobs, w[0], w[1]) <= w[1]-w[0] {
			t.Fatalf("%v is no witness for %v", w, l)
		}
	}
	if made < 1000 || failed < 1000 {
		t.Errorf("%d tables, %d witnesses", made, failed)
	}
}

// TestServesByWord: P8.4; tables in which a few slots are changed.
func TestServesByWord(t *testing.T) {
	r := &sample{5}
	served, changed := 0, 0
	for range 20000 {
		l := r.messages(3, []int{4, 6, 12}[r.below(3)])
		table, _, e := avionics.Schedule(l)
		if e != api.OK {
			continue
		}
		jobs := plainJobs(l, len(table))
		for range r.below(4) {
			i, j := r.below(len(table)), r.below(len(table))
			table[i], table[j] = table[j], table[i]
		}
		if r.yes(6) {
			table[r.below(len(table))] = r.from(-3, len(l)+1)
		}
		wanted := plainServes(jobs, table)
		if avionics.Serves(l, table) != wanted {
			t.Fatalf("%v serves %v: %v", table, l, !wanted)
		}
		if wanted {
			served++
		} else {
			changed++
		}
	}
	if served < 1000 || changed < 1000 {
		t.Errorf("%d serve, %d do not", served, changed)
	}
}

// TestGreatestBus: P8.3, P8.9; the longest cycles with the most jobs.
func TestGreatestBus(t *testing.T) {
	l := messages([3]int{2, 5, 5})
	for i := range 14 {
		l = append(l, message(i+1, 40, 1000, 1000))
	}
	table, _, e := avionics.Schedule(l)
	if len(table) != 1000 || e != api.OK || !avionics.Serves(l, table) {
		t.Error(len(table), e)
	}
	l[14].Size = 81
	wantWitness(t, l, 0, 1000)
	l[14].Size, l[14].Deadline = 40, 66
	if table, _, e := avionics.Schedule(l); len(table) != 1000 || e != api.OK || !avionics.Serves(l, table) {
		t.Error(len(table), e)
	}
	l[14].Deadline = 65
	wantWitness(t, l, 0, 65)
}
