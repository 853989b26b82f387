package bench

import (
	"slices"
	"strconv"
	"strings"

	"skyfix/acquire"
	"skyfix/api"
	"skyfix/bank"
	"skyfix/bitsync"
	"skyfix/cross"
	"skyfix/detect"
	"skyfix/discr"
	"skyfix/exclude"
	"skyfix/gold"
	"skyfix/quant"
	"skyfix/signal"
	"skyfix/solve"
	"skyfix/track"
)

const (
	// The limits of a bench.
	maxOver     = 3
	maxPrns     = 4
	maxEmitters = 4
	maxSights   = 8
	maxMake     = 4096
	maxSeed     = 1<<31 - 1
	// maxStep is the greatest step and phase, stepShift what brings them to the upper bits of a phase.
	maxStep   = 63
	stepShift = 26
	// words is the number of words of all frames.
	words = 2
	// need and miss are the numbers of a channel's detector.
	need = 2
	miss = 3
)

// commands returns the commands by their words.
func commands() map[string]command {
	return map[string]command{
		"plan":    {numbers: 6, more: true, run: (*Bench).doPlan},
		"emit":    {numbers: 7, bits: true, run: (*Bench).doEmit},
		"noise":   {numbers: 1, run: (*Bench).doNoise},
		"make":    {numbers: 1, run: (*Bench).doMake},
		"gain":    {numbers: 1, run: (*Bench).doGain},
		"level":   {numbers: 2, run: (*Bench).doLevel},
		"sum":     {numbers: 2, run: (*Bench).doSum},
		"three":   {numbers: 3, run: (*Bench).doThree},
		"bound":   {numbers: 1, run: (*Bench).doBound},
		"find":    {numbers: 3, run: (*Bench).doFind},
		"all":     {numbers: 2, run: (*Bench).doAll},
		"confirm": {numbers: 1, run: (*Bench).doConfirm},
		"step":    {numbers: 1, run: (*Bench).doStep},
		"track":   {numbers: 6, run: (*Bench).doTrack},
		"bits":    {run: (*Bench).doBits},
		"edge":    {numbers: 1, run: (*Bench).doEdge},
		"read":    {numbers: 1, run: (*Bench).doRead},
		"code":    {numbers: 1, run: (*Bench).doCode},
		"cross":   {numbers: 2, run: (*Bench).doCross},
		"sight":   {numbers: 6, run: (*Bench).doSight},
		"clear":   {run: (*Bench).doClear},
		"prior":   {numbers: 5, run: (*Bench).doPrior},
		"solve":   {run: (*Bench).doSolve},
		"answer":  {run: (*Bench).doAnswer},
	}
}

// within reports whether x is from low to high.
func within(x, low, high int) bool { return x >= low && x <= high }

// say returns words and numbers with blanks between them.
func say(parts ...any) string {
	var l []string
	for _, p := range parts {
		switch x := p.(type) {
		case int:
			l = append(l, strconv.Itoa(x))
		case bool:
			l = append(l, map[bool]string{true: "yes", false: "no"}[x])
		case string:
			l = append(l, x)
		}
	}
	return strings.Join(l, " ")
}

// digits returns bits as digits.
func digits(bits []int) string {
	var b strings.Builder
	for _, bit := range bits {
		b.WriteString(strconv.Itoa(bit))
	}
	return b.String()
}

// forget lets go what is found in levels.
func (b *Bench) forget() {
	b.hit, b.epochs = nil, nil
}

// hearing returns the levels, or fails if there is no gain.
func (b *Bench) hearing() []api.Sample {
	require(b.levels != nil, api.ErrState)
	return *b.levels
}

// following returns the prompt sums of the epochs, or fails if there are none.
func (b *Bench) following() []api.Sample {
	require(b.epochs != nil, api.ErrState)
	var sums []api.Sample
	for _, x := range *b.epochs {
		sums = append(sums, x.Prompt)
	}
	return sums
}

// turns returns a step and a phase, or fails if one is out of range.
func turns(step, phase int) (uint32, uint32) {
	require(within(step, 0, maxStep) && within(phase, 0, maxStep), api.ErrRange)
	return uint32(step) << stepShift, uint32(phase) << stepShift
}

func (b *Bench) doPlan(a arguments) string {
	n := a.numbers
	require(within(n[0], 5, 7) && within(n[1], 1, maxOver), api.ErrRange)
	require(len(n) <= 6+maxPrns, api.ErrLong)
	p := api.Plan{Degree: n[0], Over: n[1], PerBit: n[2], Words: words, MinAmp: n[3], MaxAmp: n[4], Noise: n[5], Prns: n[6:]}
	e := signal.CheckPlan(p)
	require(e == api.OK, e)
	b.plan = p
	b.emitters, b.seed, b.raw, b.levels = nil, nil, nil, nil
	b.forget()
	return say(must(gold.Length(p.Degree)) * p.Over)
}

func (b *Bench) doEmit(a arguments) string {
	n := a.numbers
	require(len(b.emitters) < maxEmitters, api.ErrFull)
	step, phase := turns(n[3], n[4])
	x := api.Emitter{Prn: n[0], Delay: n[1], Rate: n[2], Step: step, Phase: phase, Amp: n[5], BitAt: n[6], Bits: a.bits}
	e := signal.Check(b.plan, x)
	require(e == api.OK, e)
	double := slices.ContainsFunc(b.emitters, func(y api.Emitter) bool { return y.Prn == x.Prn })
	require(!double, api.ErrDouble)
	b.emitters = slices.Concat(b.emitters, []api.Emitter{x})
	return say(len(b.emitters))
}

func (b *Bench) doNoise(a arguments) string {
	require(within(a.numbers[0], 0, maxSeed), api.ErrRange)
	b.seed = &a.numbers[0]
	return say(a.numbers[0])
}

// noise returns the noise of a seed for n samples.
func noise(x, n, greatest int) []api.Sample {
	component := func() int {
		x = (1103515245*x + 12345) % (maxSeed + 1)
		return x/65536%(2*greatest+1) - greatest
	}
	l := make([]api.Sample, n)
	for i := range l {
		l[i].I = component()
		l[i].Q = component()
	}
	return l
}

func (b *Bench) doMake(a arguments) string {
	n := a.numbers[0]
	require(within(n, 0, maxMake), api.ErrRange)
	var added []api.Sample
	if b.seed != nil {
		added = noise(*b.seed, n, b.plan.Noise)
	}
	raw := must(signal.Make(b.plan, b.emitters, added, n))
	b.raw, b.levels = &raw, nil
	b.forget()
	return say(n)
}

// quantise takes a gain and its levels.
func (b *Bench) quantise(g api.Gain) string {
	q := must(quant.Quantise(*b.raw, g))
	b.gain, b.levels = g, &q.S
	b.forget()
	return say("bits", g.Bits, "shift", g.Shift, "lost", q.Lost)
}

func (b *Bench) doGain(a arguments) string {
	require(b.raw != nil, api.ErrState)
	return b.quantise(must(quant.Least(*b.raw, a.numbers[0])))
}

func (b *Bench) doLevel(a arguments) string {
	require(b.raw != nil, api.ErrState)
	return b.quantise(api.Gain{Bits: a.numbers[0], Shift: a.numbers[1]})
}

func (b *Bench) doSum(a arguments) string {
	s := must(bank.Sum(b.hearing(), b.plan.Degree, b.plan.Over, a.numbers[0], a.numbers[1]))
	return say(s.I, s.Q)
}

func (b *Bench) doThree(a arguments) string {
	sums := must(bank.Three(b.hearing(), b.plan.Degree, b.plan.Over, a.numbers[0], a.numbers[1], a.numbers[2]))
	return say(must(discr.Code(sums)))
}

func (b *Bench) doBound(a arguments) string {
	b.hearing()
	prn := a.numbers[0]
	bound := must(detect.Bound(b.plan, b.gain, prn))
	threshold := must(detect.Threshold(b.plan, b.gain, prn))
	return say("bound", bound, "threshold", threshold, "sure", must(detect.Sure(b.plan, b.gain, prn)))
}

func (b *Bench) doFind(a arguments) string {
	h, claimed, e := acquire.Acquire(b.hearing(), b.plan, b.gain, a.numbers[0], a.numbers[1], a.numbers[2])
	require(e == api.OK, e)
	b.hit = &h
	return say("at", h.At, "power", h.Power, "claimed", claimed)
}

func (b *Bench) doAll(a arguments) string {
	var l []string
	for _, h := range must(acquire.All(b.hearing(), b.plan, b.gain, a.numbers[0], a.numbers[1])) {
		l = append(l, say(h.Prn)+"@"+say(h.At))
	}
	if len(l) == 0 {
		return "none"
	}
	return strings.Join(l, ", ")
}

func (b *Bench) doConfirm(a arguments) string {
	require(b.hit != nil, api.ErrState)
	return say(must(acquire.Confirm(b.hearing(), b.plan, b.gain, *b.hit, a.numbers[0])))
}

func (b *Bench) doStep(a arguments) string {
	require(b.hit != nil, api.ErrState)
	return say(must(acquire.Step(b.hearing(), b.plan, *b.hit, a.numbers[0])))
}

func (b *Bench) doTrack(a arguments) string {
	levels, n := b.hearing(), a.numbers
	step, phase := turns(n[4], n[3])
	still := api.Loop{Order: 1, Shift: [3]int{20, 20, 20}, Limit: 1}
	t := must(track.New(b.plan, n[0], n[1], n[2], still, still, phase, step, need, miss))
	last, l, e := track.Run(levels, b.plan, b.gain, t, n[5])
	require(e == api.OK, e)
	b.epochs = &l
	claimed := 0
	for _, x := range l {
		if x.Claimed {
			claimed++
		}
	}
	return say("epochs", len(l), "claimed", claimed, "locked", last.Lock.Locked, "at", last.At)
}

func (b *Bench) doBits(arguments) string {
	require(b.epochs != nil, api.ErrState)
	if len(*b.epochs) == 0 {
		return "none"
	}
	return digits(track.Bits(*b.epochs))
}

func (b *Bench) doEdge(a arguments) string {
	sums := b.following()
	s := must(bitsync.Feed(must(bitsync.New(b.plan.PerBit)), sums))
	return say(must(bitsync.Edge(s, a.numbers[0])))
}

func (b *Bench) doRead(a arguments) string {
	return digits(must(bitsync.Read(b.following(), b.plan.PerBit, a.numbers[0])))
}

func (b *Bench) doCode(a arguments) string {
	var bits []int
	for _, chip := range must(gold.Code(b.plan.Degree, a.numbers[0])) {
		bits = append(bits, (1-chip)/2)
	}
	return digits(bits)
}

func (b *Bench) doCross(a arguments) string {
	p, q := a.numbers[0], a.numbers[1]
	if p == q {
		return say(must(cross.Side(b.plan.Degree, b.plan.Over, p)))
	}
	return say(must(cross.Cross(b.plan.Degree, b.plan.Over, p, q)))
}

func (b *Bench) doSight(a arguments) string {
	require(len(b.sights) < maxSights, api.ErrFull)
	n := a.numbers
	x := api.Sight{Prn: n[0], Sat: api.Point{X: n[1], Y: n[2], Z: n[3]}, Range: n[4], Error: n[5]}
	b.sights = slices.Concat(b.sights, []api.Sight{x})
	return say(len(b.sights))
}

func (b *Bench) doClear(arguments) string {
	b.sights = nil
	return say(0)
}

func (b *Bench) doPrior(a arguments) string {
	n := a.numbers
	b.prior, b.radius, b.bias = api.Point{X: n[0], Y: n[1], Z: n[2]}, n[3], n[4]
	return say("ok")
}

func (b *Bench) doSolve(arguments) string {
	s := must(solve.Solve(b.sights, b.prior, b.bias))
	return say(s.At.X, s.At.Y, s.At.Z, "bias", s.Bias, "steps", s.Steps, "closed", s.Closed)
}

func (b *Bench) doAnswer(arguments) string {
	x := must(exclude.Answer(b.sights, b.prior, b.radius, b.bias))
	l := x.Level
	return say("kind", x.Kind, "at", x.At.X, x.At.Y, x.At.Z, "bias", x.Bias, "level", l[0], l[1], l[2], l[3], "excluded", x.Excluded)
}
