package avionics

import "ullage/api"

// leastLive is how many channels are never removed: of two that disagree nobody knows which one is right.
const leastLive = 2

// Voter votes.
type Voter struct {
	self                *Voter // only NewVoter sets it, so that neither a copy nor one made elsewhere is a voter
	tolerance, patience int
	channels            []channel
}

// channel is whether a channel is live, and at how many rounds, one after the other, it has disagreed.
type channel struct {
	live  bool
	count int
}

// NewVoter returns a voter.
func NewVoter(channels, tolerance, patience int) (*Voter, api.Errno) {
	if !isFrom(channels, 1, api.MaxChannels) || !isFrom(tolerance, 0, mostNumber) || !isFrom(patience, 0, mostNumber) {
		return nil, api.ErrRange
	}
	v := &Voter{tolerance: tolerance, patience: patience, channels: make([]channel, channels)}
	for i := range v.channels {
		v.channels[i].live = true
	}
	v.self = v
	return v, api.OK
}

// made reports whether NewVoter returned the voter.
func (v *Voter) made() bool { return v != nil && v.self == v }

// Vote returns the value of a round.
func (v *Voter) Vote(l []api.Reading) (int, api.Errno) {
	if !v.made() {
		return 0, api.ErrNil
	}
	if len(l) != len(v.channels) {
		return 0, api.ErrArg
	}
	for _, r := range l {
		if r.There && !isReading(r.Value) {
			return 0, api.ErrRange
		}
	}
	values := sorted(v.counting(l))
	if len(values) == 0 {
		return 0, api.ErrNone
	}
	value := values[(len(values)-1)/2]
	v.count(l, value)
	v.remove()
	return value, api.OK
}

// counting returns the values that count in a round.
func (v *Voter) counting(l []api.Reading) []int {
	var values []int
	for i, r := range l {
		if r.There && v.channels[i].live {
			values = append(values, r.Value)
		}
	}
	return values
}

// count counts for which channels a round has another value than they.
func (v *Voter) count(l []api.Reading, value int) {
	for i, r := range l {
		c := &v.channels[i]
		switch {
		case !c.live:
		case r.There && isFrom(r.Value, value-v.tolerance, value+v.tolerance):
			c.count = 0
		default:
			c.count++
		}
	}
}

// remove removes the channels that have disagreed for too long.
func (v *Voter) remove() {
	left := 0
	for _, c := range v.channels {
		if c.live {
			left++
		}
	}
	for i, c := range v.channels {
		if c.live && c.count > v.patience && left > leastLive {
			v.channels[i] = channel{}
			left--
		}
	}
}

// Live returns which channels are live.
func (v *Voter) Live() []bool {
	if !v.made() {
		return nil
	}
	l := make([]bool, len(v.channels))
	for i, c := range v.channels {
		l[i] = c.live
	}
	return l
}

// Counts returns the counts of channels.
func (v *Voter) Counts() []int {
	if !v.made() {
		return nil
	}
	l := make([]int, len(v.channels))
	for i, c := range v.channels {
		l[i] = c.count
	}
	return l
}
