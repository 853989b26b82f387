package acquire_test

import (
	"math/rand/v2"
	"reflect"
	"slices"
	"testing"

	"skyfix/acquire"
	"skyfix/api"
	"skyfix/bank"
	"skyfix/detect"
	"skyfix/quant"
	"skyfix/signal"
)

func plan() api.Plan {
	return api.Plan{Degree: 5, Over: 2, PerBit: 2, Words: 2, MinAmp: 10, MaxAmp: 10, Prns: []int{1}}
}

func gain() api.Gain { return api.Gain{Bits: 8, Shift: 5} }

// scene is a scene with its quantised samples.
type scene struct {
	p api.Plan
	g api.Gain
	l []api.Emitter
	s []api.Sample
}

func (x scene) length() int { return (1<<x.p.Degree - 1) * x.p.Over }

// random returns a scene of up to three codes, of which one may be missing.
func random(r *rand.Rand, rate int) scene {
	x := scene{p: api.Plan{Degree: []int{5, 6, 7}[r.IntN(3)], Over: 1 + r.IntN(3), PerBit: 1 + r.IntN(4), Words: 2, MinAmp: 90, MaxAmp: 100, Noise: []int{0, 5, 30}[r.IntN(3)], Prns: []int{1 + r.IntN(10), 11 + r.IntN(10), 21 + r.IntN(10)}[:1+r.IntN(3)]}}
	l := x.length()
	for i, prn := range x.p.Prns {
		if i == 0 || r.IntN(3) > 0 {
			x.l = append(x.l, api.Emitter{Prn: prn, Delay: r.IntN(l), Rate: r.IntN(2*rate+1) - rate, Step: r.Uint32(), Phase: r.Uint32(), Amp: 90 + r.IntN(11), Bits: []int{0, 1, 1}})
		}
	}
	noise := make([]api.Sample, 20*l)
	for i := range noise {
		noise[i] = api.Sample{I: x.p.Noise * (1 - 2*r.IntN(2)), Q: x.p.Noise * (1 - 2*r.IntN(2))}
	}
	raw, _ := signal.Make(x.p, x.l, noise, len(noise))
	x.g, _ = quant.Least(raw, 8)
	q, _ := quant.Quantise(raw, x.g)
	x.s = q.S
	return x
}

// power returns the power of a place over many windows by its definition.
func (x scene) power(prn, at, many int) int {
	p := 0
	for k := range many {
		s, _ := bank.Sum(x.s, x.p.Degree, x.p.Over, prn, at+k*x.length())
		p += s.I*s.I + s.Q*s.Q
	}
	return p
}

// aligned reports whether an emitter with a code is aligned with a place.
func (x scene) aligned(prn, at int) bool {
	for _, e := range x.l {
		if e.Prn == prn {
			k, i, _ := signal.Place(x.p, e, at)
			next, _ := signal.Start(x.p, e, k+1)
			return i < x.p.Over || next-at < x.p.Over
		}
	}
	return false
}

// P16.1, P16.4, P16.5, P16.6: searches.
func TestSearch(t *testing.T) {
	r := rand.New(rand.NewPCG(16, 1))
	claims, sures := 0, 0
	for i := range 40 {
		x := random(r, 64*(i%2))
		from, many := r.IntN(x.length()), 1+r.IntN(4)
		var want []api.Hit
		for _, prn := range x.p.Prns {
			h, claimed := checkSearch(t, x, prn, from, many)
			sure, _ := detect.Sure(x.p, x.g, prn)
			present := slices.ContainsFunc(x.l, func(e api.Emitter) bool { return e.Prn == prn })
			if i%2 == 0 && sure && present {
				sures++
				if !claimed {
					t.Fatalf("%v: code %d is not claimed", x.p, prn)
				}
			}
			if claimed {
				claims++
				want = append(want, h)
			}
		}
		if all, e := acquire.All(x.s, x.p, x.g, from, many); e != api.OK || !reflect.DeepEqual(all, want) {
			t.Fatalf("All = %v, %v, want %v", all, e, want)
		}
	}
	if claims == 0 || sures == 0 {
		t.Errorf("%d claims, %d sure ones", claims, sures)
	}
}

// checkSearch checks Scan and Acquire of a code.
func checkSearch(t *testing.T, x scene, prn, from, many int) (api.Hit, bool) {
	t.Helper()
	powers, e := acquire.Scan(x.s, x.p, prn, from, many)
	if e != api.OK || len(powers) != x.length() {
		t.Fatal(e)
	}
	want := api.Hit{Prn: prn, At: from, Many: many}
	for i, p := range powers {
		if i%11 == 0 && p != x.power(prn, from+i, many) {
			t.Fatalf("the power of %d is %d", from+i, p)
		}
		if p > want.Power {
			want.At, want.Power = from+i, p
		}
	}
	h, claimed, e := acquire.Acquire(x.s, x.p, x.g, prn, from, many)
	claims, _ := detect.Claims(x.p, x.g, prn, want.Power, many)
	if h != want || claimed != claims || e != api.OK {
		t.Fatalf("Acquire = %v, %v, %v, want %v, %v", h, claimed, e, want, claims)
	}
	aligned := false
	for k := range many {
		aligned = aligned || x.aligned(prn, h.At+k*x.length())
	}
	if claimed && !aligned {
		t.Fatalf("code %d is claimed at %d", prn, h.At)
	}
	return h, claimed
}

// P16.2: following windows.
func TestConfirm(t *testing.T) {
	r := rand.New(rand.NewPCG(16, 2))
	some := 0
	for range 30 {
		x := random(r, 64)
		prn := x.p.Prns[0]
		h := api.Hit{Prn: prn, At: r.IntN(2 * x.length()), Power: -5, Many: 1 + r.IntN(16)}
		if r.IntN(2) == 0 {
			h, _, _ = acquire.Acquire(x.s, x.p, x.g, prn, 0, 2)
		}
		l := x.length()
		confirmed := 0
		for k := range 101 {
			if n, e := acquire.Confirm(x.s, x.p, x.g, h, k); n != confirmed || e != api.OK {
				t.Fatalf("Confirm(%v, %d) = %d, %v, want %d", h, k, n, e, confirmed)
			}
			at := h.At + (h.Many+k)*l
			claims := false
			for a := at - x.p.Over; a <= at+x.p.Over; a++ {
				if a >= 0 && a+l <= len(x.s) {
					c, _ := detect.Claims(x.p, x.g, prn, x.power(prn, a, 1), 1)
					claims = claims || c
				}
			}
			if claims {
				confirmed++
			}
		}
		some += confirmed
	}
	if some == 0 {
		t.Error("no window is confirmed")
	}
}

// P16.3: the strongest step.
func TestStep(t *testing.T) {
	r := rand.New(rand.NewPCG(16, 3))
	for range 60 {
		x := random(r, 0)
		prn := x.p.Prns[0]
		h := api.Hit{Prn: prn, At: r.IntN(2 * x.length()), Many: 1 + r.IntN(16)}
		bins := 1 << r.IntN(7)
		w, _ := bank.Windows(x.s, x.p.Degree, x.p.Over, prn, h.At, h.Many)
		powers, _ := bank.Steps(w, bins)
		want := 0
		for j, p := range powers {
			if p > powers[want] {
				want = j
			}
		}
		if j, e := acquire.Step(x.s, x.p, h, bins); j != want || e != api.OK {
			t.Fatalf("Step = %d, %v, want %d", j, e, want)
		}
	}
	if j, e := acquire.Step(make([]api.Sample, 248), plan(), api.Hit{Prn: 1, At: 62, Many: 3}, 8); j != 0 || e != api.OK {
		t.Errorf("Step up to the end: %d, %v", j, e)
	}
}

// P16.7: opposite signs.
func TestSigns(t *testing.T) {
	r := rand.New(rand.NewPCG(16, 4))
	x := random(r, 64)
	before, _ := acquire.Scan(x.s, x.p, x.p.Prns[0], 5, 3)
	for i := range x.s {
		x.s[i] = api.Sample{I: -x.s[i].I, Q: -x.s[i].Q}
	}
	after, e := acquire.Scan(x.s, x.p, x.p.Prns[0], 5, 3)
	if e != api.OK || !slices.Equal(before, after) {
		t.Errorf("the powers change: %v", e)
	}
}

// The examples of the chapter.
func TestExamples(t *testing.T) {
	zeros := make([]api.Sample, 248)
	if l, e := acquire.Scan(zeros, plan(), 1, 0, 2); !slices.Equal(l, make([]int, 62)) || e != api.OK {
		t.Errorf("Scan = %v, %v", l, e)
	}
	if h, c, e := acquire.Acquire(zeros, plan(), gain(), 1, 0, 3); h != (api.Hit{Prn: 1, Many: 3}) || c || e != api.OK {
		t.Errorf("Acquire = %v, %v, %v", h, c, e)
	}
	if h, _, e := acquire.Acquire(zeros, plan(), gain(), 1, 2, 3); h != (api.Hit{}) || e != api.ErrShort {
		t.Errorf("Acquire = %v, %v", h, e)
	}
	s := make([]api.Sample, 5)
	raw, _ := signal.Make(plan(), []api.Emitter{{Prn: 1, Amp: 10}}, nil, 186)
	for _, x := range raw {
		s = append(s, api.Sample{I: 100 * x.I / 1270})
	}
	if h, c, e := acquire.Acquire(s, plan(), gain(), 1, 0, 2); h != (api.Hit{Prn: 1, At: 5, Power: 2 * 6200 * 6200, Many: 2}) || !c || e != api.OK {
		t.Errorf("Acquire = %v, %v, %v", h, c, e)
	}
}

// The errors, in their order.
func TestErrors(t *testing.T) {
	long := make([]api.Sample, 1<<20+1)
	long[0].I = 128
	short := make([]api.Sample, 123)
	bad := []api.Sample{{Q: -128}}
	for i, x := range []struct {
		p             api.Plan
		g             api.Gain
		prn           int
		s             []api.Sample
		from, many    int
		n, bins       int
		code, all     api.Errno // of functions with a code, and of All
		confirm, step api.Errno
	}{
		{p: api.Plan{}, prn: 9, s: long, code: api.ErrRange, all: api.ErrRange, confirm: api.ErrRange, step: api.ErrRange},
		{p: plan(), g: gain(), prn: 9, s: long, code: api.ErrNone, all: api.ErrLong, confirm: api.ErrNone, step: api.ErrNone},
		{p: plan(), g: gain(), prn: 1, s: long, from: -1, code: api.ErrLong, all: api.ErrLong, confirm: api.ErrLong, step: api.ErrLong},
		{p: plan(), g: gain(), prn: 1, s: bad, from: 0, many: 1, bins: 3, n: -1, code: api.ErrRange, all: api.ErrRange, confirm: api.ErrRange, step: api.ErrRange},
		{p: plan(), g: gain(), prn: 1, from: -1, many: 1, code: api.ErrRange, all: api.ErrRange, confirm: api.ErrRange, step: api.ErrRange},
		{p: plan(), g: gain(), prn: 1, from: 1<<20 + 1, many: 1, code: api.ErrRange, all: api.ErrRange, confirm: api.ErrRange, step: api.ErrRange},
		{p: plan(), g: gain(), prn: 1, many: 0, code: api.ErrRange, all: api.ErrRange, confirm: api.ErrRange, step: api.ErrRange},
		{p: plan(), g: gain(), prn: 1, many: 17, code: api.ErrRange, all: api.ErrRange, confirm: api.ErrRange, step: api.ErrRange},
		{p: plan(), g: gain(), prn: 1, s: short[1:], many: 1, n: 101, bins: 3, code: api.ErrShort, all: api.ErrShort, confirm: api.ErrRange, step: api.ErrForm},
		{p: plan(), g: gain(), prn: 1, s: short[1:], many: 2, n: -1, bins: 64, code: api.ErrShort, all: api.ErrShort, confirm: api.ErrRange, step: api.ErrShort},
		{p: plan(), g: gain(), prn: 1, s: short, many: 1, n: 100, bins: 64},
		{p: plan(), g: gain(), prn: 1, s: short, from: 1 << 20, many: 16, n: 100, bins: 64, code: api.ErrShort, all: api.ErrShort, step: api.ErrShort},
	} {
		l, e1 := acquire.Scan(x.s, x.p, x.prn, x.from, x.many)
		h, c, e2 := acquire.Acquire(x.s, x.p, x.g, x.prn, x.from, x.many)
		a, e3 := acquire.All(x.s, x.p, x.g, x.from, x.many)
		hit := api.Hit{Prn: x.prn, At: x.from, Many: x.many}
		n, e4 := acquire.Confirm(x.s, x.p, x.g, hit, x.n)
		j, e5 := acquire.Step(x.s, x.p, hit, x.bins)
		if e1 != x.code || e2 != x.code || e3 != x.all || e4 != x.confirm || e5 != x.step {
			t.Errorf("%d: %v, %v, %v, %v, %v", i, e1, e2, e3, e4, e5)
		}
		if x.code != api.OK && (l != nil || h != (api.Hit{}) || c || a != nil) || n != 0 || j != 0 {
			t.Errorf("%d: there is a result beside an error", i)
		}
	}
	// The gain is checked behind the plan, and before the code.
	_, _, e1 := acquire.Acquire(nil, plan(), api.Gain{}, 9, 0, 1)
	_, e2 := acquire.All(long, plan(), api.Gain{}, 0, 1)
	_, e3 := acquire.Confirm(nil, plan(), api.Gain{}, api.Hit{Prn: 9}, 1)
	if e1 != api.ErrRange || e2 != api.ErrRange || e3 != api.ErrRange {
		t.Errorf("without a gain: %v, %v, %v", e1, e2, e3)
	}
}
