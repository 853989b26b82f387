package track_test

import (
	"math/rand/v2"
	"reflect"
	"slices"
	"testing"

	"skyfix/angle"
	"skyfix/api"
	"skyfix/bank"
	"skyfix/detect"
	"skyfix/discr"
	"skyfix/lock"
	"skyfix/loop"
	"skyfix/quant"
	"skyfix/signal"
	"skyfix/track"
)

func plan() api.Plan {
	return api.Plan{Degree: 5, Over: 2, PerBit: 2, Words: 2, MinAmp: 10, MaxAmp: 10, Prns: []int{1}}
}

func gain() api.Gain { return api.Gain{Bits: 8, Shift: 5} }

func still() api.Loop { return api.Loop{Order: 1, Shift: [3]int{20, 20, 20}, Limit: 1} }

// randomLoop returns a valid loop.
func randomLoop(r *rand.Rand) api.Loop {
	l := api.Loop{Order: 1 + r.IntN(3), Limit: 1 + r.IntN(1<<r.IntN(40))}
	for i := range l.Shift {
		l.Shift[i] = r.IntN(21)
	}
	return l
}

// random returns a scene of one or two codes, quantised, and a channel for the first one.
func random(r *rand.Rand, rate int) (api.Plan, api.Gain, []api.Emitter, []api.Sample, api.Track) {
	p := api.Plan{Degree: []int{5, 6, 7}[r.IntN(3)], Over: 1 + r.IntN(3), PerBit: 1 + r.IntN(4), Words: 2, MinAmp: 90, MaxAmp: 100, Noise: []int{0, 5, 30}[r.IntN(3)], Prns: []int{1 + r.IntN(10), 11 + r.IntN(10)}[:1+r.IntN(2)]}
	l := (1<<p.Degree - 1) * p.Over
	var emitters []api.Emitter
	for _, prn := range p.Prns {
		emitters = append(emitters, api.Emitter{Prn: prn, Delay: r.IntN(l), Rate: r.IntN(2*rate+1) - rate, Step: r.Uint32(), Phase: r.Uint32(), Amp: 90 + r.IntN(11), Bits: []int{0, 1, 1, 0}})
	}
	noise := make([]api.Sample, 30*l)
	for i := range noise {
		noise[i] = api.Sample{I: p.Noise * (1 - 2*r.IntN(2)), Q: p.Noise * (1 - 2*r.IntN(2))}
	}
	raw, _ := signal.Make(p, emitters, noise, len(noise))
	g, _ := quant.Least(raw, 8)
	q, _ := quant.Quantise(raw, g)
	t := api.Track{Prn: p.Prns[0], At: emitters[0].Delay + r.IntN(5), Half: 1 + r.IntN(4), Code: randomLoop(r), Carrier: randomLoop(r), Rest: r.IntN(2047) - 1023, Phase: r.Uint32(), Step: r.Uint32(), Lock: api.Lock{Need: 1 + r.IntN(4), Miss: 1 + r.IntN(4)}}
	return p, g, emitters, q.S, t
}

// epoch makes an epoch by the definition.
func epoch(s []api.Sample, p api.Plan, g api.Gain, t api.Track) (api.Track, api.Epoch, bool) {
	l := (1<<p.Degree - 1) * p.Over
	if t.At-t.Half < 0 || t.At+t.Half+l > len(s) {
		return t, api.Epoch{}, false
	}
	sums, _ := bank.Three(s, p.Degree, p.Over, t.Prn, t.At, t.Half)
	x := api.Epoch{At: t.At, Prompt: sums.Prompt}
	x.Claimed, _ = detect.Claims(p, g, t.Prn, x.Prompt.I*x.Prompt.I+x.Prompt.Q*x.Prompt.Q, 1)
	t.Lock, _ = lock.Step(t.Lock, x.Claimed)
	x.Locked = t.Lock.Locked
	c := angle.Carrier(t.Phase)
	if x.Prompt.I*c.I+x.Prompt.Q*c.Q < 0 {
		x.Bit = 1
	}
	half, _ := discr.Half(x.Prompt)
	for x.Turn = half - int(t.Phase>>20); x.Turn < -1024; x.Turn += 2048 {
	}
	var out int
	t.Carrier, out, _ = loop.Step(t.Carrier, x.Turn)
	t.Phase += t.Step + uint32(out*(1<<20))
	x.Code, _ = discr.Code(sums)
	t.Code, out, _ = loop.Step(t.Code, x.Code)
	t.Rest = max(-2047, min(2047, t.Rest+out))
	move := t.Rest / 1024
	t.Rest -= 1024 * move
	t.At += l - move
	return t, x, true
}

// P20.2, P20.3, P20.5: epochs, one by one, at once and in parts.
func TestEpochs(t *testing.T) {
	r := rand.New(rand.NewPCG(20, 1))
	for range 60 {
		p, g, _, s, c := random(r, 64)
		var want []api.Epoch
		at := c
		for {
			next, x, ok := epoch(s, p, g, at)
			got, y, e := track.Step(s, p, g, at)
			if !ok {
				if got != (api.Track{}) || y != (api.Epoch{}) || e != api.ErrShort {
					t.Fatalf("Step at the end = %v, %v, %v", got, y, e)
				}
				break
			}
			if got != next || y != x || e != api.OK {
				t.Fatalf("Step = %v, %v, %v, want %v, %v", got, y, e, next, x)
			}
			want, at = append(want, x), next
		}
		last, l, e := track.Run(s, p, g, c, 10000)
		if last != at || !slices.Equal(l, want) || e != api.OK {
			t.Fatalf("Run = %v, %d epochs, %v, want %d", last, len(l), e, len(want))
		}
		k := r.IntN(len(want) + 1)
		first, a, _ := track.Run(s, p, g, c, k)
		other, b, _ := track.Run(s, p, g, first, 10000)
		if other != last || !slices.Equal(slices.Concat(a, b), want) || len(a) != k {
			t.Fatal("running in parts is another thing")
		}
		for i, bit := range track.Bits(l) {
			if bit != l[i].Bit {
				t.Fatal("Bits is wrong")
			}
		}
	}
	if l := track.Bits([]api.Epoch{{Bit: 7}, {Bit: -1 << 63}}); !slices.Equal(l, []int{7, -1 << 63}) {
		t.Errorf("Bits = %v", l)
	}
	if l := track.Bits(nil); len(l) != 0 {
		t.Errorf("Bits of nothing = %v", l)
	}
}

// near returns how far the nearest beginning of a period of an emitter is.
func near(p api.Plan, e api.Emitter, at int) int {
	k, i, _ := signal.Place(p, e, at)
	next, _ := signal.Start(p, e, k+1)
	return min(i, next-at)
}

// P20.4: claims and locks are proved.
func TestProved(t *testing.T) {
	r := rand.New(rand.NewPCG(20, 2))
	claims, locks := 0, 0
	for range 80 {
		p, g, emitters, s, c := random(r, 64)
		reach, _ := lock.Reach(c.Lock, p.Over)
		_, l, e := track.Run(s, p, g, c, 10000)
		if e != api.OK {
			t.Fatal(e)
		}
		for _, x := range l {
			d := near(p, emitters[0], x.At)
			if x.Claimed && d >= p.Over || x.Locked && d > reach {
				t.Fatalf("%v is %d off (reach %d)", x, d, reach)
			}
			if x.Claimed {
				claims++
			}
			if x.Locked {
				locks++
			}
		}
	}
	if claims == 0 || locks == 0 {
		t.Errorf("%d claims, %d locks", claims, locks)
	}
}

// P20.6: a sure code is claimed at every epoch, and its bits are those that were sent.
func TestSure(t *testing.T) {
	r := rand.New(rand.NewPCG(20, 3))
	sures := 0
	for range 80 {
		p, g, emitters, s, c := random(r, 0)
		if sure, _ := detect.Sure(p, g, c.Prn); !sure {
			continue
		}
		sures++
		e := emitters[0]
		first, _ := signal.Start(p, e, 1)
		c.At, c.Code, c.Carrier, c.Rest, c.Phase, c.Step = first, still(), still(), 0, e.Phase+e.Step, e.Step
		_, l, err := track.Run(s, p, g, c, 10000)
		if err != api.OK || len(l) < 20 {
			t.Fatal(len(l), err)
		}
		for k, x := range l {
			bit, _ := signal.Bit(p, e, k+1)
			if !x.Claimed || x.Bit != bit || x.Locked != (k+1 >= c.Lock.Need) {
				t.Fatalf("the epoch %d is %v, want the bit %d", k, x, bit)
			}
		}
	}
	if sures < 10 {
		t.Errorf("only %d codes are sure", sures)
	}
}

// The examples of the chapter.
func TestExamples(t *testing.T) {
	zeros := make([]api.Sample, 248)
	c, e := track.New(plan(), 1, 10, 1, still(), still(), 0, 1<<26, 2, 3)
	if want := (api.Track{Prn: 1, At: 10, Half: 1, Code: still(), Carrier: still(), Step: 1 << 26, Lock: api.Lock{Need: 2, Miss: 3}}); c != want || e != api.OK {
		t.Errorf("New = %v, %v", c, e)
	}
	next, x, e := track.Step(zeros, plan(), gain(), c)
	if next.At != 72 || next.Phase != 1<<26 || x != (api.Epoch{At: 10}) || e != api.OK {
		t.Errorf("Step = %v, %v, %v", next, x, e)
	}
	if last, l, e := track.Run(zeros, plan(), gain(), c, 100); len(l) != 3 || last.At != 196 || e != api.OK {
		t.Errorf("Run = %v, %v, %v", last, l, e)
	}
	for at, want := range map[int]int{186: 0, 185: 247, 0: 0, 1: 63} {
		c.At = at
		next, _, e := track.Step(zeros, plan(), gain(), c)
		if next.At != want || (e == api.ErrShort) != (want == 0) {
			t.Errorf("Step at %d = %v, %v", at, next, e)
		}
	}
	c.At = api.MaxPlace
	if last, l, e := track.Run(zeros, plan(), gain(), c, 5); last != c || len(l) != 0 || e != api.OK {
		t.Errorf("Run behind the samples = %v, %v, %v", last, l, e)
	}
}

// P20.1, P20.2, P20.3: the errors, in their order.
func TestErrors(t *testing.T) {
	long := make([]api.Sample, 1<<20+1)
	long[0].I = 128
	good := api.Track{Prn: 1, At: 10, Half: 1, Code: still(), Carrier: still(), Lock: api.Lock{Need: 2, Miss: 3}}
	if e := track.Check(plan(), good); e != api.OK {
		t.Fatal(e)
	}
	for i, x := range []struct {
		change func(p *api.Plan, c *api.Track)
		e      api.Errno
	}{
		{func(p *api.Plan, c *api.Track) { p.Prns, c.Prn = nil, 9 }, api.ErrForm}, {func(p *api.Plan, c *api.Track) { c.Prn, c.At = 9, -1 }, api.ErrNone},
		{func(p *api.Plan, c *api.Track) { c.At = -1 }, api.ErrRange}, {func(p *api.Plan, c *api.Track) { c.At = 1<<21 + 1 }, api.ErrRange},
		{func(p *api.Plan, c *api.Track) { c.Half = 0 }, api.ErrRange}, {func(p *api.Plan, c *api.Track) { c.Half = 65 }, api.ErrRange},
		{func(p *api.Plan, c *api.Track) { c.Rest = 1024 }, api.ErrRange}, {func(p *api.Plan, c *api.Track) { c.Rest = -1024 }, api.ErrRange},
		{func(p *api.Plan, c *api.Track) { c.Code.Order, c.Lock.Up = 0, 1 }, api.ErrRange}, {func(p *api.Plan, c *api.Track) { c.Carrier.Limit = 0 }, api.ErrRange},
		{func(p *api.Plan, c *api.Track) { c.Lock.Up = 2 }, api.ErrForm}, {func(p *api.Plan, c *api.Track) { c.Lock = api.Lock{} }, api.ErrRange},
		{func(p *api.Plan, c *api.Track) { c.Lock.Up, c.Carrier.Limit = 2, 0 }, api.ErrRange},
	} {
		p, c := plan(), good
		x.change(&p, &c)
		e1 := track.Check(p, c)
		next, y, e2 := track.Step(long, p, api.Gain{}, c)
		last, l, e3 := track.Run(long, p, api.Gain{}, c, -1)
		if e1 != x.e || e2 != x.e || e3 != x.e || next != (api.Track{}) || last != next || y != (api.Epoch{}) || l != nil {
			t.Errorf("%d: %v, %v, %v, want %v", i, e1, e2, e3, x.e)
		}
		made, e := track.New(p, c.Prn, c.At, c.Half, c.Code, c.Carrier, 0, 0, 0, 1)
		if want := x.e; made != (api.Track{}) || e != want && e != api.ErrRange {
			t.Errorf("%d: New = %v, %v, want %v", i, made, e, want)
		}
	}
	for i, x := range []struct {
		s    []api.Sample
		g    api.Gain
		many int
		step api.Errno
		run  api.Errno
	}{
		{long, api.Gain{}, -1, api.ErrRange, api.ErrRange}, {long, gain(), -1, api.ErrLong, api.ErrLong}, {[]api.Sample{{Q: -128}}, gain(), 1, api.ErrRange, api.ErrRange},
		{nil, gain(), -1, api.ErrShort, api.ErrRange}, {nil, gain(), 10001, api.ErrShort, api.ErrRange}, {nil, gain(), 10000, api.ErrShort, api.OK}, {make([]api.Sample, 100), gain(), 0, api.OK, api.OK},
	} {
		_, _, e1 := track.Step(x.s, plan(), x.g, good)
		last, l, e2 := track.Run(x.s, plan(), x.g, good, x.many)
		if e1 != x.step || e2 != x.run || len(l) != 0 || !reflect.DeepEqual(last, map[bool]api.Track{true: good}[e2 == api.OK]) {
			t.Errorf("%d: %v, %v, want %v, %v", i, e1, e2, x.step, x.run)
		}
	}
	for i, x := range [][2]int{{0, 1}, {1, 0}, {101, 1}} {
		if c, e := track.New(plan(), 1, 10, 1, still(), still(), 0, 0, x[0], x[1]); c != (api.Track{}) || e != api.ErrRange {
			t.Errorf("%d: New = %v, %v", i, c, e)
		}
	}
	if _, e := track.New(plan(), 9, 10, 1, still(), still(), 0, 0, 0, 0); e != api.ErrNone {
		t.Errorf("New with another code: %v", e)
	}
}
