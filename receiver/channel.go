package receiver

import (
	"slices"

	"skyfix/api"
	"skyfix/bitsync"
	"skyfix/ephem"
	"skyfix/frame"
	"skyfix/orbit"
	"skyfix/spans"
	"skyfix/track"
)

const (
	// maxEpochs is the greatest number of epochs of a channel.
	maxEpochs = 10000
	// milli is the number of nanoseconds of a millisecond.
	milli = 1000000
	// roundings is by how much a pseudorange with a clock's offset, and a position, can be off because of roundings.
	roundings = 2
)

// channel is a channel with the epochs that it has made, and an ephemeris that was given (of no satellite if there is none).
type channel struct {
	api.Track
	epochs   []api.Epoch
	assisted api.Ephemeris
}

// begun returns the channel that begins at a hit.
func begun(p api.Plan, h api.Hit) *channel {
	code := api.Loop{Order: 1, Shift: [3]int{2, 20, 20}, Limit: 512}
	carrier := api.Loop{Order: 2, Shift: [3]int{1, 3, 20}, Limit: 1 << 20}
	// A hit is one of the plan's codes, at a place of a channel.
	t, _ := track.New(p, h.Prn, h.At, 1, code, carrier, 0, 0, 2, 4)
	return &channel{Track: t}
}

// copied returns an independent copy.
func (c *channel) copied() *channel {
	return &channel{c.Track, slices.Clone(c.epochs), c.assisted}
}

// progress is what a channel has come to: its last track, and the epochs on the way.
type progress struct {
	channel *channel
	last    api.Track
	epochs  []api.Epoch
}

// advance makes epochs as long as the samples suffice; the channel stays as it is.
func (c *channel) advance(s []api.Sample, p api.Plan, g api.Gain) progress {
	// The receiver has only levels as samples, and valid channels.
	last, l, _ := track.Run(s, p, g, c.Track, maxEpochs-len(c.epochs))
	return progress{c, last, l}
}

// take makes progress.
func (c *channel) take(x progress) {
	c.Track = x.last
	c.epochs = append(c.epochs, x.epochs...)
}

// stream returns the stream, and the residue at which bits begin.
func (c *channel) stream(p api.Plan) (bits []int, at int, e api.Errno) {
	var sums []api.Sample
	for _, bit := range track.Bits(c.epochs) {
		sums = append(sums, api.Sample{I: 1 - 2*bit})
	}
	sync, e := bitsync.New(p.PerBit)
	if e != api.OK {
		return nil, 0, e
	}
	if sync, e = bitsync.Feed(sync, sums); e != api.OK {
		return nil, 0, e
	}
	if at, e = bitsync.Edge(sync, 1); e != api.OK {
		return nil, 0, e
	}
	if bits, e = bitsync.Read(sums, p.PerBit, at); e != api.OK {
		return nil, 0, e
	}
	return bits, at, api.OK
}

// frames returns the frames, and the residue at which bits begin.
func (c *channel) frames(p api.Plan) ([]api.Found, int, api.Errno) {
	bits, at, e := c.stream(p)
	if e != api.OK {
		return nil, 0, e
	}
	l, e := frame.All(bits, p.Words)
	if e != api.OK {
		return nil, 0, e
	}
	return l, at, api.OK
}

// ephemeris returns the last ephemeris of the frames, or the one that was given.
func (c *channel) ephemeris(p api.Plan) (api.Ephemeris, api.Errno) {
	last := c.assisted
	var parts api.Parts
	add := func(f api.Frame) {
		q, x, done, e := ephem.Add(parts, f)
		if e != api.OK {
			return
		}
		parts = q
		if done && x.Prn == c.Prn {
			last = x
		}
	}
	l, _, _ := c.frames(p)
	for _, f := range l {
		add(f.Frame)
	}
	if last.Prn == 0 {
		return api.Ephemeris{}, api.ErrNone
	}
	return last, api.OK
}

// time returns the time of the last frame.
func (c *channel) time(p api.Plan) (api.Channel, api.Errno) {
	l, residue, e := c.frames(p)
	if e != api.OK {
		return api.Channel{}, e
	}
	if len(l) == 0 {
		return api.Channel{}, api.ErrNone
	}
	last := l[len(l)-1]
	ms, e := spans.Time(p.Words, p.PerBit, last.Frame.Tow, 0, 0)
	if e != api.OK {
		return api.Channel{}, e
	}
	return api.Channel{Prn: c.Prn, At: c.epochs[residue+p.PerBit*last.At].At, Ms: ms}, api.OK
}

// sight returns what the channel says of its satellite at a clock.
func (c *channel) sight(p api.Plan, rx int) (api.Sight, api.Errno) {
	if len(c.epochs) == 0 || !c.epochs[len(c.epochs)-1].Locked {
		return api.Sight{}, api.ErrNone
	}
	at, e := c.time(p)
	if e != api.OK {
		return api.Sight{}, e
	}
	x, e := c.ephemeris(p)
	if e != api.OK {
		return api.Sight{}, e
	}
	sat, e := orbit.Position(x, at.Ms*milli)
	if e != api.OK {
		return api.Sight{}, e
	}
	// An ephemeris that has a position has a clock.
	offset, _ := orbit.Clock(x, at.Ms*milli)
	l := (1<<p.Degree - 1) * p.Over
	length, e := spans.Length(l, rx, at)
	if e != api.OK {
		return api.Sight{}, e
	}
	bound, e := spans.Bound(l, p.Over)
	return api.Sight{Prn: c.Prn, Sat: sat, Range: length + offset, Error: bound + x.Acc + roundings}, e
}
