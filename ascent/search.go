package ascent

import (
	"slices"

	"ullage/api"
)

// Why a search ended.
const (
	whyGap    = 0
	whyNone   = 1
	whyBudget = 2
)

// ranked is a cell of a search, and the least that one of its climbs may cost.
type ranked struct {
	cell
	low api.Num
}

// search is a search so far: its cells, in the order in which they came to be, and what it found.
type search struct {
	task       api.Ascent
	open, done []ranked
	found      api.Found
}

// Search looks for the climb that costs least.
func Search(t api.Ascent, budget int) (api.Found, api.Errno) {
	if CheckTask(t) != api.OK || budget < 0 || budget > api.MaxCells {
		return api.Found{}, api.ErrArg
	}
	s := search{task: t}
	if e := s.add(whole(t)); e != api.OK {
		return api.Found{}, e
	}
	f := &s.found
looking:
	for {
		f.Bound = s.bound()
		switch {
		case len(s.open) == 0:
			f.Why = whyNone
			break looking
		case len(f.Best) > 0 && f.Cost.Hi-f.Bound <= t.Gap: // no cost is negative: the difference fits
			f.Why = whyGap
			break looking
		case f.Cells == budget:
			f.Why = whyBudget
			break looking
		}
		if e := s.look(s.take()); e != api.OK {
			return api.Found{}, e
		}
	}
	f.Left = len(s.open) + len(s.done)
	return *f, api.OK
}

// add makes a cell an open one.
func (s *search) add(c cell) api.Errno {
	cost, e := c.cost(s.task)
	if e != api.OK {
		return e
	}
	s.open = append(s.open, ranked{c, cost.Lo})
	return api.OK
}

// bound returns the least low of all cells that are open or done.
func (s *search) bound() api.Num {
	least := api.MostNum
	for _, l := range [][]ranked{s.open, s.done} {
		for _, c := range l {
			least = min(least, c.low)
		}
	}
	return least
}

// take takes the open cell with the least low off the list.
func (s *search) take() ranked {
	first := 0
	for i, c := range s.open {
		if c.low < s.open[first].low {
			first = i
		}
	}
	c := s.open[first]
	s.open = slices.Delete(s.open, first, first+1)
	return c
}

// look looks at a cell.
func (s *search) look(c ranked) api.Errno {
	s.found.Cells++
	if c.judge(s.task) == fails {
		return api.OK
	}
	if e := s.try(c.middle()); e != api.OK {
		return e
	}
	low, high, ok := c.halves()
	if !ok {
		s.done = append(s.done, c)
		return api.OK
	}
	if e := s.add(low); e != api.OK {
		return e
	}
	return s.add(high)
}

// try makes a climb the best one, if it surely reaches and costs less.
func (s *search) try(c cell) api.Errno {
	cost, e := c.cost(s.task)
	if e != api.OK {
		return e
	}
	f := &s.found
	// A flight takes long: it is flown only where it matters.
	if (len(f.Best) == 0 || cost.Hi < f.Cost.Hi) && c.judge(s.task) == reaches {
		f.Best, f.Cost = c, cost
	}
	return api.OK
}
