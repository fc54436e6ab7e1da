package engine

import "ullage/api"

// The kinds of what goes wrong.
const (
	wrongValve = iota
	wrongTank
)

// Why a sequence ended.
const (
	whyDone = iota
	whyOrder
	whyNeed
	whyRedline
)

// Run runs a sequence.
func (s *System) Run(q api.Sequence, l []api.Disorder) (api.Ended, api.Errno) {
	if !s.made() {
		return api.Ended{}, api.ErrNil
	}
	if !validSequence(s.plant, q) || !validDisorders(s.plant, l) {
		return api.Ended{}, api.ErrArg
	}
	end := s.play(q, l)
	if end.Why != whyDone {
		end.Refused = s.abort(q.Abort)
	}
	return end, api.OK
}

// play runs a sequence up to its end, without the orders of its abort.
func (s *System) play(q api.Sequence, l []api.Disorder) api.Ended {
	var end api.Ended
	counts := make([]int, len(q.Redlines))
	behind := 0 // the index behind the steps that are done
run:
	for n := 0; ; n++ {
		end.At = n
		first := behind
		behind = stepsUpTo(q.Steps, first, n)
		s.goWrong(l, n)
		for i := first; i < behind; i++ {
			if !s.giveAll(q.Steps[i].Orders) {
				end.Why, end.Index = whyOrder, i
				break run
			}
		}
		s.tick()
		for i, r := range q.Redlines {
			if counts[i] = s.count(r, counts[i]); counts[i] > r.Ticks {
				end.Why, end.Index = whyRedline, i
				break run
			}
		}
		for i := first; i < behind; i++ {
			if !s.keepsAll(q.Steps[i].Needs) {
				end.Why, end.Index = whyNeed, i
				break run
			}
		}
		if behind == len(q.Steps) {
			break
		}
	}
	return end
}

// stepsUpTo returns the index behind the last step, from an index on, that is not later than n.
func stepsUpTo(l []api.Step, from, n int) int {
	for from < len(l) && l[from].At <= n {
		from++
	}
	return from
}

// goWrong lets happen what goes wrong at the tick n.
func (s *System) goWrong(l []api.Disorder, n int) {
	for _, d := range l {
		switch {
		case d.At != n:
		case d.Kind == wrongValve:
			s.stuck[d.Of] = true
		default:
			s.tanks[d.Of].leak = d.Rate
		}
	}
}

// giveAll gives orders up to the first one that is refused, and reports whether none is.
func (s *System) giveAll(l []api.Order) bool {
	for _, o := range l {
		if !s.give(o) {
			return false
		}
	}
	return true
}

// count returns at how many ticks, up to this one, a redline's need was not kept.
func (s *System) count(r api.Redline, before int) int {
	if s.keeps(r.Need) {
		return 0
	}
	return before + 1
}

// keepsAll reports whether all needs are kept.
func (s *System) keepsAll(l []api.Need) bool {
	for _, n := range l {
		if !s.keeps(n) {
			return false
		}
	}
	return true
}

// abort gives all orders of an abort, and returns how many are refused.
func (s *System) abort(l []api.Order) int {
	refused := 0
	for _, o := range l {
		if !s.give(o) {
			refused++
		}
	}
	return refused
}
