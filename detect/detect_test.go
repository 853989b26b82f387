package detect_test

import (
	"math/rand/v2"
	"slices"
	"testing"

	"skyfix/api"
	"skyfix/bank"
	"skyfix/cross"
	"skyfix/detect"
	"skyfix/quant"
	"skyfix/signal"
)

// plan is the plan of the chapter's examples, gain its gain.
func plan() api.Plan {
	return api.Plan{Degree: 5, Over: 2, PerBit: 2, Words: 2, MinAmp: 10, MaxAmp: 10, Prns: []int{1}}
}

func gain() api.Gain { return api.Gain{Bits: 8, Shift: 5} }

// random returns a plan and a gain.
func random(r *rand.Rand) (api.Plan, api.Gain) {
	p := api.Plan{Degree: []int{5, 6, 7, 9}[r.IntN(4)], Over: 1 + r.IntN(4), PerBit: 1, Words: 2, MinAmp: 1 + r.IntN(500), Noise: r.IntN(100001) >> r.IntN(17)}
	p.MaxAmp = p.MinAmp + r.IntN(500)
	for range 1 + r.IntN(4) {
		if prn := 1 + r.IntN(33); !slices.Contains(p.Prns, prn) {
			p.Prns = append(p.Prns, prn)
		}
	}
	return p, api.Gain{Bits: 2 + r.IntN(7), Shift: r.IntN(31)}
}

// numbers returns the bound, the threshold and the floor by their definitions.
func numbers(p api.Plan, g api.Gain, prn int) (bound, threshold, floor int) {
	l := (1<<p.Degree - 1) * p.Over
	coarse, _ := quant.Coarse(g)
	others := 0
	for _, q := range p.Prns {
		if q != prn {
			c, _ := cross.Cross(p.Degree, p.Over, prn, q)
			others += c
		}
	}
	side, _ := cross.Side(p.Degree, p.Over, prn)
	noise := 3 * l * (p.Noise + coarse)
	noise = noise/2 + noise%2
	bound = 128*p.MaxAmp*(side+others) + noise
	threshold = bound / (1 << g.Shift)
	if threshold<<g.Shift < bound {
		threshold++
	}
	return bound, threshold, 126*p.MinAmp*(l-2) - 128*p.MaxAmp*others - noise
}

// P15.1: the numbers are those of the definitions.
func TestNumbers(t *testing.T) {
	r := rand.New(rand.NewPCG(15, 1))
	sures := 0
	for range 80 {
		p, g := random(r)
		all, e := detect.Thresholds(p, g)
		if e != api.OK || len(all) != len(p.Prns) {
			t.Fatal(e)
		}
		for i, prn := range p.Prns {
			bound, threshold, floor := numbers(p, g, prn)
			b, e1 := detect.Bound(p, g, prn)
			h, e2 := detect.Threshold(p, g, prn)
			f, e3 := detect.Floor(p, g, prn)
			s, e4 := detect.Sure(p, g, prn)
			if b != bound || h != threshold || f != floor || s != (floor > threshold<<g.Shift) || all[i] != threshold {
				t.Fatalf("%v, %v, %d: %d, %d, %d, %v, want %d, %d, %d", p, g, prn, b, h, f, s, bound, threshold, floor)
			}
			if e1 != api.OK || e2 != api.OK || e3 != api.OK || e4 != api.OK {
				t.Fatal(e1, e2, e3, e4)
			}
			if s {
				sures++
			}
			checkClaims(t, p, g, prn, threshold)
		}
	}
	if sures == 0 {
		t.Error("no code is sure")
	}
	side, _ := cross.Side(5, 2, 1)
	if b, _ := detect.Bound(plan(), gain(), 1); b != 1280*side+1488 {
		t.Errorf("Bound = %d", b)
	}
	if f, _ := detect.Floor(plan(), gain(), 1); f != 74112 {
		t.Errorf("Floor = %d", f)
	}
}

// P15.2: claims just above M times the square of the threshold.
func checkClaims(t *testing.T, p api.Plan, g api.Gain, prn, threshold int) {
	t.Helper()
	for _, many := range []int{1, 3, 1000} {
		limit := many * threshold * threshold
		if threshold >= 1<<26 {
			continue
		}
		for power, want := range map[int]bool{0: false, limit: false, limit + 1: true, 1<<63 - 1: true} {
			if c, e := detect.Claims(p, g, prn, power, many); c != want || e != api.OK {
				t.Fatalf("Claims(.., %d, %d) = %v, %v", power, many, c, e)
			}
		}
	}
}

// P15.2: thresholds whose squares are no ints.
func TestGreatThreshold(t *testing.T) {
	p := api.Plan{Degree: 10, Over: 8, PerBit: 1, Words: 2, MinAmp: 1, MaxAmp: 1000, Noise: 100000, Prns: []int{1, 2, 3, 4, 5, 6, 7, 8}}
	g := api.Gain{Bits: 8}
	h, e := detect.Threshold(p, g, 1)
	if e != api.OK || h < 1<<30 {
		t.Fatalf("Threshold = %d, %v", h, e)
	}
	if c, e := detect.Claims(p, g, 1, 1<<63-1, 1000); c || e != api.OK {
		t.Errorf("Claims = %v, %v", c, e)
	}
}

// P15.3, P15.4: what claims is aligned, and what is sure claims.
func TestScenes(t *testing.T) {
	r := rand.New(rand.NewPCG(15, 2))
	claims, sures := 0, 0
	for range 60 {
		p := api.Plan{Degree: []int{5, 6, 7}[r.IntN(3)], Over: 1 + r.IntN(3), PerBit: 1 + r.IntN(3), Words: 2, MinAmp: 90, MaxAmp: 100, Noise: []int{0, 5, 40}[r.IntN(3)], Prns: []int{1 + r.IntN(10), 11 + r.IntN(10)}[:1+r.IntN(2)]}
		var l []api.Emitter
		length := (1<<p.Degree - 1) * p.Over
		for _, prn := range p.Prns[r.IntN(2)%len(p.Prns):] {
			l = append(l, api.Emitter{Prn: prn, Delay: r.IntN(length), Rate: r.IntN(129) - 64, Step: r.Uint32(), Phase: r.Uint32(), Amp: 90 + r.IntN(11), Bits: []int{0, 1, 1, 0, 1}})
		}
		noise := make([]api.Sample, 5*length)
		for i := range noise {
			noise[i] = api.Sample{I: p.Noise * (1 - 2*r.IntN(2)), Q: p.Noise * (1 - 2*r.IntN(2))}
		}
		raw, err := signal.Make(p, l, noise, len(noise))
		if err != api.OK {
			t.Fatal(err)
		}
		g, _ := quant.Least(raw, 8)
		q, _ := quant.Quantise(raw, g)
		for _, prn := range p.Prns {
			c, s := checkScene(t, p, g, l, q.S, prn, length)
			claims, sures = claims+c, sures+s
		}
	}
	if claims == 0 || sures == 0 {
		t.Errorf("%d claims, %d sure ones", claims, sures)
	}
}

// checkScene checks the windows of a code at all places of a scene, and counts the claims, and the beginnings of sure codes.
func checkScene(t *testing.T, p api.Plan, g api.Gain, l []api.Emitter, s []api.Sample, prn, length int) (claims, sures int) {
	t.Helper()
	sure, _ := detect.Sure(p, g, prn)
	threshold, _ := detect.Threshold(p, g, prn)
	sums, e := bank.Bank(s, p.Degree, p.Over, prn, 0, len(s)-length)
	if e != api.OK {
		t.Fatal(e)
	}
	for at, x := range sums {
		power := x.I*x.I + x.Q*x.Q
		claimed, aligned, begins := power > threshold*threshold, false, false
		for _, e := range l {
			if e.Prn == prn {
				k, i, _ := signal.Place(p, e, at)
				next, _ := signal.Start(p, e, k+1)
				aligned = i < p.Over || next-at < p.Over
				begins = i == 0
			}
		}
		if claimed && !aligned {
			t.Fatalf("%v: code %d is claimed at %d", p, prn, at)
		}
		if sure && begins && !claimed {
			t.Fatalf("%v: code %d is not claimed at %d", p, prn, at)
		}
		if claimed {
			claims++
		}
		if sure && begins {
			sures++
		}
	}
	return claims, sures
}

// P15.5: greater noise, amplitudes and plans.
func TestMonotonic(t *testing.T) {
	r := rand.New(rand.NewPCG(15, 3))
	for range 60 {
		p, g := random(r)
		prn := p.Prns[0]
		b, _ := detect.Bound(p, g, prn)
		h, _ := detect.Threshold(p, g, prn)
		more := p
		switch r.IntN(3) {
		case 0:
			more.Noise = min(p.Noise+100, 100000)
		case 1:
			more.MaxAmp = min(p.MaxAmp+10, 1000)
		case 2:
			more.Prns = append(slices.Clone(p.Prns), 40)
			if p.Degree == 5 {
				continue
			}
		}
		b2, e := detect.Bound(more, g, prn)
		h2, _ := detect.Threshold(more, g, prn)
		b3, _ := detect.Bound(p, api.Gain{Bits: g.Bits, Shift: min(g.Shift+1, 30)}, prn)
		if b2 < b || h2 < h || b3 < b || e != api.OK {
			t.Fatalf("the bound falls from %d to %d, %d: %v", b, b2, b3, e)
		}
	}
}

// The errors, in their order.
func TestErrors(t *testing.T) {
	none := plan()
	none.Prns = nil
	for i, x := range []struct {
		p           api.Plan
		g           api.Gain
		prn         int
		power, many int
		e           api.Errno
	}{
		{api.Plan{}, api.Gain{}, 9, -1, 0, api.ErrRange}, {none, api.Gain{}, 9, -1, 0, api.ErrForm}, {plan(), api.Gain{}, 9, -1, 0, api.ErrRange}, {plan(), api.Gain{Bits: 2, Shift: 31}, 9, -1, 0, api.ErrRange},
		{plan(), gain(), 2, -1, 0, api.ErrNone}, {plan(), gain(), 1, -1, 1, api.ErrRange}, {plan(), gain(), 1, 0, 0, api.ErrRange}, {plan(), gain(), 1, 0, 1001, api.ErrRange}, {plan(), gain(), 1, 0, -1 << 63, api.ErrRange},
	} {
		if c, e := detect.Claims(x.p, x.g, x.prn, x.power, x.many); c || e != x.e {
			t.Errorf("%d: Claims = %v, %v, want %v", i, c, e, x.e)
		}
		if x.prn == 1 {
			continue
		}
		b, e1 := detect.Bound(x.p, x.g, x.prn)
		h, e2 := detect.Threshold(x.p, x.g, x.prn)
		f, e3 := detect.Floor(x.p, x.g, x.prn)
		s, e4 := detect.Sure(x.p, x.g, x.prn)
		if e1 != x.e || e2 != x.e || e3 != x.e || e4 != x.e || b+h+f != 0 || s {
			t.Errorf("%d: %v, %v, %v, %v, want %v", i, e1, e2, e3, e4, x.e)
		}
		if l, e := detect.Thresholds(x.p, x.g); x.e != api.ErrNone && (e != x.e || l != nil) {
			t.Errorf("%d: Thresholds = %v, %v", i, l, e)
		}
	}
}
