package avionics

import (
	"iter"
	"slices"

	"ullage/api"
)

// never is the frame of a cut of a string that does not cut.
const never = -1

// path is through whom a value went, from the general on; the places behind its length are 0.
type path struct {
	members [api.MaxTraitors + 1]int
	length  int
}

// with returns a path with one more member behind it.
func (p path) with(member int) path {
	p.members[p.length] = member
	p.length++
	return p
}

// last returns the last member of a path.
func (p path) last() int { return p.members[p.length-1] }

// has reports whether a path goes through a member.
func (p path) has(member int) bool { return slices.Contains(p.members[:p.length], member) }

// saying is what the last member of a path tells one about it, in a frame.
type saying struct {
	frame int
	path  path
	to    int
}

// council is a valid council, and what its faulty members tell.
type council struct {
	n, f   int
	faulty [api.MaxCouncil]bool
	lies   map[saying]int
}

// validCouncil reports whether a council is valid.
func validCouncil(c api.Council) bool {
	if !isFrom(c.N, 1, api.MaxCouncil) || !isFrom(c.F, 0, api.MaxTraitors) || c.N <= 3*c.F || len(c.Faulty) > c.F {
		return false
	}
	least := 0
	for _, i := range c.Faulty {
		if !isFrom(i, least, c.N-1) {
			return false
		}
		least = i + 1
	}
	return true
}

// newCouncil returns a valid council with its lies, of which the first one counts. A lie for a path that nobody takes is never asked for.
func newCouncil(c api.Council, lies []api.Lie) council {
	made := council{n: c.N, f: c.F, lies: map[saying]int{}}
	for _, i := range c.Faulty {
		made.faulty[i] = true
	}
	for _, lie := range lies {
		if len(lie.Path) > c.F+1 {
			continue
		}
		said := saying{frame: lie.Frame, to: lie.To}
		for _, i := range lie.Path {
			said.path = said.path.with(i)
		}
		if _, known := made.lies[said]; !known {
			made.lies[said] = lie.Value
		}
	}
	return made
}

// others goes through the members that are not in a path.
func (c council) others(p path) iter.Seq[int] {
	return func(yield func(int) bool) {
		for i := range c.n {
			if !p.has(i) && !yield(i) {
				return
			}
		}
	}
}

// talk returns what all hear about a general's value in a frame.
func (c council) talk(frame, general, value int) map[saying]int {
	heard := map[saying]int{}
	var walk func(p path, known int)
	walk = func(p path, known int) {
		for i := range c.others(p) {
			said := saying{frame, p, i}
			heard[said] = known
			if c.faulty[p.last()] {
				heard[said] = c.lies[said]
			}
			if p.length <= c.f {
				walk(p.with(i), heard[said])
			}
		}
	}
	walk(path{}.with(general), value)
	return heard
}

// conclude returns what a member, who is not the general, decides after what it heard.
func (c council) conclude(heard map[saying]int, frame, general, member int) int {
	var hold func(p path) int
	hold = func(p path) int {
		own := heard[saying{frame, p, member}]
		if p.length > c.f {
			return own
		}
		l := []int{own}
		for j := range c.others(p) {
			if j != member {
				l = append(l, hold(p.with(j)))
			}
		}
		return majority(l)
	}
	return hold(path{}.with(general))
}

// majority returns what more than half of some values are; 0 if there is no such value.
func majority(l []int) int {
	middle := sorted(l)[len(l)/2]
	if 2*countOf(l, middle) > len(l) {
		return middle
	}
	return 0
}

// agree returns what each loyal member decides about a general's value in a frame; 0 for the faulty ones.
func (c council) agree(frame, general, value int) []int {
	heard := c.talk(frame, general, value)
	decided := make([]int, c.n)
	for i := range decided {
		switch {
		case c.faulty[i]:
		case i == general:
			decided[i] = value
		default:
			decided[i] = c.conclude(heard, frame, general, i)
		}
	}
	return decided
}

// Agree returns what the members of a council decide.
func Agree(c api.Council, general, value int, lies []api.Lie) ([]int, api.Errno) {
	if !validCouncil(c) || !isFrom(general, 0, c.N-1) {
		return nil, api.ErrArg
	}
	if len(lies) > api.MaxLies {
		return nil, api.ErrLong
	}
	return newCouncil(c, lies).agree(0, general, value), api.OK
}

// validVotes reports whether each frame has a vote of each of n strings.
func validVotes(votes [][]int, n int) bool {
	for _, l := range votes {
		if len(l) != n || countOf(l, 0)+countOf(l, 1) != n {
			return false
		}
	}
	return true
}

// CutOff returns when strings cut.
func CutOff(c api.Council, votes [][]int, lies []api.Lie) ([]int, api.Errno) {
	if !validCouncil(c) {
		return nil, api.ErrArg
	}
	if len(votes) > api.MaxFrames || len(lies) > api.MaxLies {
		return nil, api.ErrLong
	}
	if !validVotes(votes, c.N) {
		return nil, api.ErrArg
	}
	members := newCouncil(c, lies)
	cuts := slices.Repeat([]int{never}, c.N)
	for frame, l := range votes {
		for i, n := range members.ayes(frame, l) {
			if n > c.F && cuts[i] == never {
				cuts[i] = frame
			}
		}
	}
	return cuts, api.OK
}

// ayes returns for each loyal string how many votes of a frame it takes for 1; 0 for the faulty ones.
func (c council) ayes(frame int, votes []int) []int {
	n := make([]int, c.n)
	for general, vote := range votes {
		for i, decided := range c.agree(frame, general, vote) {
			if decided == 1 {
				n[i]++
			}
		}
	}
	return n
}
