package avionics

import (
	"cmp"
	"iter"
	"slices"

	"ullage/api"
)

// free is a slot of a table that no message has.
const free = -1

// job is what a message needs in one of its periods: so many slots, from begin to below end. It lacks those that it has not got.
type job struct{ message, begin, end, size, lack int }

// validMessages reports whether a list of messages is valid.
func validMessages(l []api.Message) bool {
	if !isFrom(len(l), 1, api.MaxMessages) {
		return false
	}
	names := map[string]bool{}
	for _, m := range l {
		if !isFrom(len(m.Name), 1, api.MaxName) || names[m.Name] {
			return false
		}
		names[m.Name] = true
		if !isFrom(m.Period, 1, api.MaxCycle) || !isFrom(m.Deadline, 1, m.Period) || !isFrom(m.Size, 1, m.Deadline) {
			return false
		}
	}
	return true
}

// commonMultiple returns the least common multiple of two numbers above 0.
func commonMultiple(a, b int) int {
	divisor, rest := a, b
	for rest != 0 {
		divisor, rest = rest, divisor%rest
	}
	return a / divisor * b
}

// Cycle returns how many slots a cycle has.
func Cycle(l []api.Message) (int, api.Errno) {
	if !validMessages(l) {
		return 0, api.ErrArg
	}
	cycle := 1
	for _, m := range l {
		cycle = commonMultiple(cycle, m.Period)
		if cycle > api.MaxCycle {
			return 0, api.ErrLong
		}
	}
	jobs := 0
	for _, m := range l {
		jobs += cycle / m.Period
	}
	if jobs > api.MaxJobs {
		return 0, api.ErrLong
	}
	return cycle, api.OK
}

// jobsOf returns the jobs of valid messages, by rising message.
func jobsOf(l []api.Message, cycle int) []job {
	var jobs []job
	for i, m := range l {
		for begin := 0; begin < cycle; begin += m.Period {
			jobs = append(jobs, job{message: i, begin: begin, end: begin + m.Deadline, size: m.Size, lack: m.Size})
		}
	}
	return jobs
}

// Schedule makes a table, or shows that there is none.
func Schedule(l []api.Message) (table []int, witness [2]int, e api.Errno) {
	cycle, e := Cycle(l)
	if e != api.OK {
		return nil, [2]int{}, e
	}
	jobs := jobsOf(l, cycle)
	table, ok := makeTable(jobs, cycle)
	if !ok {
		return nil, findWitness(jobs, cycle), api.ErrNone
	}
	return table, [2]int{}, api.OK
}

// makeTable gives each slot to a job that lacks slots; ok is false if one lacks slots at its end.
func makeTable(jobs []job, cycle int) (table []int, ok bool) {
	for slot := range cycle {
		message := free
		if next := mostUrgent(jobs, slot); next != nil {
			if next.end <= slot {
				return nil, false
			}
			next.lack--
			message = next.message
		}
		table = append(table, message)
	}
	return table, mostUrgent(jobs, cycle) == nil
}

// mostUrgent returns the first one of the jobs whose end is least, of those that lack slots; nil if there is none.
func mostUrgent(jobs []job, slot int) *job {
	var next *job
	for j := range lacking(jobs, slot) {
		if next == nil || j.end < next.end {
			next = j
		}
	}
	return next
}

// lacking goes through the jobs that have begun at a slot and lack slots.
func lacking(jobs []job, slot int) iter.Seq[*job] {
	return func(yield func(*job) bool) {
		for i := range jobs {
			if j := &jobs[i]; j.begin <= slot && j.lack > 0 && !yield(j) {
				return
			}
		}
	}
}

// findWitness returns the first end, and the last beginning for it, between which there are too few slots for the jobs that lie there. Only beginnings of jobs need to be looked at: a witness stays one if it begins later, as long as it has the same jobs.
func findWitness(jobs []job, cycle int) [2]int {
	slices.SortFunc(jobs, func(x, y job) int { return cmp.Compare(y.begin, x.begin) })
	var witness [2]int
search:
	for end := 1; end <= cycle; end++ {
		slots := 0
		for _, j := range jobs {
			if j.end > end {
				continue
			}
			slots += j.size
			if slots > end-j.begin {
				witness = [2]int{j.begin, end}
				break search
			}
		}
	}
	return witness
}

// Serves reports whether a table serves messages.
func Serves(l []api.Message, table []int) bool {
	cycle, e := Cycle(l)
	if e != api.OK || len(table) != cycle {
		return false
	}
	left := cycle
	for _, j := range jobsOf(l, cycle) {
		if countOf(table[j.begin:j.end], j.message) != j.size {
			return false
		}
		left -= j.size
	}
	return countOf(table, free) == left
}

// countOf returns how many elements of a list are a number.
func countOf(l []int, n int) int {
	count := 0
	for _, x := range l {
		if x == n {
			count++
		}
	}
	return count
}
