package signal

import (
	"iter"

	"skyfix/angle"
	"skyfix/api"
	"skyfix/gold"
)

// oscillator is the carrier of an emitter: its phase in the period 0, and by how much it grows with each period.
type oscillator struct{ first, growth uint32 }

// phase returns the phase in the period k.
func (o oscillator) phase(k int) uint32 {
	return angle.Advance(o.first, o.growth, k)
}

// source is an emitter with what a plan says of its periods.
type source struct {
	api.Emitter
	oscillator
	chips        []int
	over, perBit int
}

// opened returns the source of an emitter of a plan.
func opened(p api.Plan, e api.Emitter) source {
	chips, _ := gold.Code(p.Degree, e.Prn)
	return source{e, oscillator{e.Phase, e.Step}, chips, p.Over, p.PerBit}
}

// floor returns a/b, rounded down; b is positive.
func floor(a, b int) int {
	q := a / b
	if a%b < 0 {
		q--
	}
	return q
}

// start returns the sample at which the period k begins.
func (s source) start(k int) int {
	return s.Delay + k*len(s.chips)*s.over + floor(k*s.Rate, rateUnits)
}

// period returns the period in which the sample n is.
func (s source) period(n int) int {
	// Without rounding, the periods are equally long; so this one is at most one off.
	k := floor((n-s.Delay)*rateUnits, len(s.chips)*s.over*rateUnits+s.Rate)
	for s.start(k) > n {
		k--
	}
	for s.start(k+1) <= n {
		k++
	}
	return k
}

// periods yields the periods and their beginnings, from that on in which the sample 0 is.
func (s source) periods() iter.Seq2[int, int] {
	return func(yield func(k, start int) bool) {
		for k := s.period(0); yield(k, s.start(k)); k++ {
		}
	}
}

// bit returns the bit of the period k.
func (s source) bit(k int) int {
	if len(s.Bits) == 0 {
		return 0
	}
	j := floor(k-s.BitAt, s.perBit)
	return s.Bits[j-len(s.Bits)*floor(j, len(s.Bits))]
}

// chip returns the chip of the sample i of a period.
func (s source) chip(i int) int {
	return s.chips[min(i/s.over, len(s.chips)-1)]
}

// level returns what the chips of the period k are multiplied by.
func (s source) level(k int, phase func(k int) uint32) api.Sample {
	c := angle.Carrier(phase(k))
	factor := s.Amp * (1 - 2*s.bit(k))
	return api.Sample{I: factor * c.I, Q: factor * c.Q}
}

// samples returns the first samples of the emitter.
func (s source) samples(many int) []api.Sample {
	l := make([]api.Sample, many)
	for k, start := range s.periods() {
		if start >= many {
			break
		}
		level := s.level(k, s.phase)
		for n := max(start, 0); n < min(s.start(k+1), many); n++ {
			chip := s.chip(n - start)
			l[n] = api.Sample{I: chip * level.I, Q: chip * level.Q}
		}
	}
	return l
}
