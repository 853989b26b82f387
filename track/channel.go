package track

import (
	"iter"

	"skyfix/angle"
	"skyfix/api"
	"skyfix/bank"
	"skyfix/detect"
	"skyfix/discr"
	"skyfix/lock"
	"skyfix/loop"
)

const (
	// turnShift leaves the upper 12 bits of a phase, in which the carrier's error and its loop's output are counted.
	turnShift = 32 - 12
	// halfTurn is the number of half angles.
	halfTurn = 2048
	// maxLimit is greater than the absolute value of any sum of a window; so a threshold may be replaced by it.
	maxLimit = 1 << 30
)

// filter is a loop on its way.
type filter api.Loop

// advance makes a step, and returns its output.
func (f *filter) advance(x int) int {
	// The loop is valid, and errors of code and carrier are never too great for it.
	next, out, _ := loop.Step(api.Loop(*f), x)
	*f = filter(next)
	return out
}

// loops are the loops of a channel.
type loops struct{ code, carrier filter }

// steer makes a step of both loops, and returns their outputs.
func (l *loops) steer(code, turn int) (outs [2]int) {
	errors := [2]int{code, turn}
	for i, f := range [2]*filter{&l.code, &l.carrier} {
		outs[i] = (*filter).advance(f, errors[i])
	}
	return outs
}

// channel is a channel on its way through samples.
type channel struct {
	loops
	s      []api.Sample
	plan   api.Plan
	length int // the samples of a period
	limit  int // the greatest power that does not claim
	state  api.Track
}

// opened returns a valid channel on its way.
func opened(s []api.Sample, p api.Plan, g api.Gain, t api.Track) *channel {
	threshold, _ := detect.Threshold(p, g, t.Prn)
	limit := min(threshold, maxLimit)
	return &channel{
		loops:  loops{filter(t.Code), filter(t.Carrier)},
		s:      s,
		plan:   p,
		length: (1<<p.Degree - 1) * p.Over,
		limit:  limit * limit,
		state:  t,
	}
}

// track returns the channel as it is.
func (c *channel) track() api.Track {
	t := c.state
	t.Code, t.Carrier = api.Loop(c.code), api.Loop(c.carrier)
	return t
}

// epochs yields epochs until a window does not lie within the samples, but at most many.
func (c *channel) epochs(many int) iter.Seq[api.Epoch] {
	return func(yield func(x api.Epoch) bool) {
		for range many {
			from, to := c.state.At-c.state.Half, c.state.At+c.state.Half+c.length
			if from < 0 || to > len(c.s) || !yield(c.epoch(c.s[from:to])) {
				return
			}
		}
	}
}

// epoch makes an epoch with its three windows.
func (c *channel) epoch(part []api.Sample) api.Epoch {
	t := &c.state
	sums, _ := bank.Three(part, c.plan.Degree, c.plan.Over, t.Prn, t.Half, t.Half)
	x := api.Epoch{At: t.At, Prompt: sums.Prompt}
	x.Claimed = x.Prompt.I*x.Prompt.I+x.Prompt.Q*x.Prompt.Q > c.limit
	t.Lock, _ = lock.Step(t.Lock, x.Claimed)
	x.Locked = t.Lock.Locked
	if wiped, _ := angle.Wipe(x.Prompt, t.Phase); wiped.I < 0 {
		x.Bit = 1
	}
	half, _ := discr.Half(x.Prompt)
	x.Turn = centred(half - int(t.Phase>>turnShift))
	x.Code, _ = discr.Code(sums)
	outs := c.steer(x.Code, x.Turn)
	c.move(outs[0])
	t.Phase = angle.Advance(t.Phase, t.Step, 1) + uint32(outs[1])<<turnShift
	return x
}

// move moves the channel to the next period, by an output of the code's loop.
func (c *channel) move(out int) {
	t := &c.state
	rest := min(max(t.Rest+out, 1-2*restUnits), 2*restUnits-1)
	move := rest / restUnits
	t.Rest = rest - move*restUnits
	t.At += c.length - move
}

// centred returns the half angle that is equal to x modulo a half turn.
func centred(x int) int {
	return ((x+halfTurn/2)%halfTurn+halfTurn)%halfTurn - halfTurn/2
}
