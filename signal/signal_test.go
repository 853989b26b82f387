package signal_test

import (
	"math/rand/v2"
	"reflect"
	"slices"
	"testing"

	"skyfix/angle"
	"skyfix/api"
	"skyfix/cross"
	"skyfix/gold"
	"skyfix/signal"
)

const most = 10000000

// plan is the plan of the chapter's examples.
func plan() api.Plan {
	return api.Plan{Degree: 5, Over: 2, PerBit: 2, Words: 2, MinAmp: 1, MaxAmp: 10, Noise: 5, Prns: []int{1, 2}}
}

func emitter() api.Emitter { return api.Emitter{Prn: 1, Delay: 3, Amp: 2, Bits: []int{0, 1}} }

// random returns a plan with two codes, and an emitter of each.
func random(r *rand.Rand) (api.Plan, []api.Emitter) {
	degree := []int{5, 6, 7}[r.IntN(3)]
	p := api.Plan{Degree: degree, Over: 1 + r.IntN(8), PerBit: 1 + r.IntN(20), Words: 2, MinAmp: 1, MaxAmp: 1000, Noise: 100000, Prns: []int{1 + r.IntN(20), 21 + r.IntN(10)}}
	var l []api.Emitter
	for _, prn := range p.Prns {
		e := api.Emitter{Prn: prn, Delay: r.IntN((1<<degree - 1) * p.Over), Rate: r.IntN(129) - 64, Step: r.Uint32(), Phase: r.Uint32(), Amp: 1 + r.IntN(1000), BitAt: r.IntN(p.PerBit)}
		for range r.IntN(6) {
			e.Bits = append(e.Bits, r.IntN(2))
		}
		l = append(l, e)
	}
	return p, l
}

func floor(a, b int) int {
	q := a / b
	if a < q*b {
		q--
	}
	return q
}

// start returns D(k) by its definition.
func start(p api.Plan, e api.Emitter, k int) int {
	return e.Delay + k*(1<<p.Degree-1)*p.Over + floor(k*e.Rate, 1024)
}

// sample returns the sample i of the period k by its definition.
func sample(p api.Plan, e api.Emitter, k, i int) api.Sample {
	code, _ := gold.Code(p.Degree, e.Prn)
	f := e.Amp * code[min(i/p.Over, len(code)-1)]
	if n := len(e.Bits); n > 0 && e.Bits[((floor(k-e.BitAt, p.PerBit)%n)+n)%n] == 1 {
		f = -f
	}
	c := angle.Table()[(e.Phase+uint32(k)*e.Step)>>26]
	return api.Sample{I: f * c.I, Q: f * c.Q}
}

// P12.3, P12.5: periods, bits and samples.
func TestPeriods(t *testing.T) {
	r := rand.New(rand.NewPCG(12, 1))
	for range 200 {
		p, l := random(r)
		e := l[0]
		length := (1<<p.Degree - 1) * p.Over
		for range 20 {
			k := r.IntN(2*most/length) - most/length
			d, err := signal.Start(p, e, k)
			next := start(p, e, k+1)
			if d != start(p, e, k) || err != api.OK || next-d < length-1 || next-d > length+1 {
				t.Fatalf("Start(%v, %d) = %d, %v", e, k, d, err)
			}
			for _, n := range []int{d, next - 1, d + r.IntN(next-d)} {
				if n < -most || n > most {
					continue
				}
				if j, i, err := signal.Place(p, e, n); j != k || i != n-d || err != api.OK {
					t.Fatalf("Place(%v, %d) = %d, %d, %v, want %d, %d", e, n, j, i, err, k, n-d)
				}
				if s, err := signal.At(p, e, n); s != sample(p, e, k, n-d) || err != api.OK {
					t.Fatalf("At(%v, %d) = %v, %v, want %v", e, n, s, err, sample(p, e, k, n-d))
				}
			}
		}
	}
}

// P12.3: bits.
func TestBit(t *testing.T) {
	r := rand.New(rand.NewPCG(12, 2))
	for range 100 {
		p, l := random(r)
		for _, e := range l {
			for k := -100; k < 100; k++ {
				want := 0
				if n := len(e.Bits); n > 0 {
					want = e.Bits[((floor(k-e.BitAt, p.PerBit)%n)+n)%n]
				}
				if b, err := signal.Bit(p, e, k); b != want || err != api.OK {
					t.Fatalf("Bit(%v, %d) = %d, %v", e, k, b, err)
				}
			}
		}
	}
	p, e := plan(), emitter()
	for k, want := range map[int]int{0: 0, 1: 0, 2: 1, -1: 1} {
		if b, _ := signal.Bit(p, e, k); b != want {
			t.Errorf("Bit(%d) = %d", k, b)
		}
	}
	e.BitAt = 1
	if b, _ := signal.Bit(p, e, 0); b != 1 {
		t.Error("Bit with BitAt 1 is wrong")
	}
}

// P12.4, P12.6: scenes.
func TestMake(t *testing.T) {
	r := rand.New(rand.NewPCG(12, 3))
	for range 40 {
		p, l := random(r)
		many := r.IntN(1500)
		noise := make([]api.Sample, r.IntN(many+1))
		for i := range noise {
			noise[i] = api.Sample{I: r.IntN(200001) - 100000, Q: r.IntN(200001) - 100000}
		}
		before := slices.Clone(noise)
		scene, err := signal.Make(p, l, noise, many)
		if err != api.OK || len(scene) != many || !slices.Equal(noise, before) {
			t.Fatal(err)
		}
		for n, s := range scene {
			var want api.Sample
			if n < len(noise) {
				want = noise[n]
			}
			for _, e := range l {
				k, i, _ := signal.Place(p, e, n)
				x := sample(p, e, k, i)
				want.I, want.Q = want.I+x.I, want.Q+x.Q
			}
			if s != want {
				t.Fatalf("the sample %d is %v, want %v", n, s, want)
			}
		}
	}
	if s, err := signal.Make(plan(), nil, nil, 0); len(s) != 0 || err != api.OK {
		t.Errorf("Make of nothing: %v, %v", s, err)
	}
	if s, err := signal.Make(plan(), []api.Emitter{emitter()}, nil, 1<<20); len(s) != 1<<20 || err != api.OK {
		t.Errorf("Make of as many as possible: %d, %v", len(s), err)
	}
}

// P12.7: the bounds of layer 9 hold for emitters.
func TestBound(t *testing.T) {
	r := rand.New(rand.NewPCG(12, 4))
	for range 60 {
		p, l := random(r)
		p.Degree, p.Over = 5, 1+r.IntN(3)
		for i := range l {
			l[i].Delay %= 31 * p.Over
		}
		e := l[r.IntN(2)]
		code, _ := cross.Samples(p.Degree, p.Over, p.Prns[0])
		limit, _ := cross.Cross(p.Degree, p.Over, p.Prns[0], e.Prn)
		side, _ := cross.Side(p.Degree, p.Over, p.Prns[0])
		scene, err := signal.Make(p, []api.Emitter{e}, nil, 800)
		if err != api.OK {
			t.Fatal(err)
		}
		for at := range len(scene) - len(code) {
			var sum api.Sample
			for i, c := range code {
				sum.I, sum.Q = sum.I+c*scene[at+i].I, sum.Q+c*scene[at+i].Q
			}
			bound := e.Amp * 128 * limit
			k, i, _ := signal.Place(p, e, at)
			next, _ := signal.Start(p, e, k+1)
			if e.Prn == p.Prns[0] && i >= p.Over && next-at >= p.Over {
				bound = e.Amp * 128 * side
			}
			if sum.I*sum.I+sum.Q*sum.Q > bound*bound {
				t.Fatalf("%v: the sum at %d is %v, more than %d", e, at, sum, bound)
			}
		}
	}
}

// P12.8: an emitter without a rate repeats its chips.
func TestRepeats(t *testing.T) {
	r := rand.New(rand.NewPCG(12, 5))
	for range 50 {
		p, l := random(r)
		e := l[0]
		e.Rate, e.Step, e.Bits = 0, 0, nil
		length := (1<<p.Degree - 1) * p.Over
		n := r.IntN(most) - most/2
		a, err := signal.At(p, e, n)
		b, err2 := signal.At(p, e, n+length)
		if a != b || err != api.OK || err2 != api.OK {
			t.Fatalf("the samples %d and %d are %v and %v: %v, %v", n, n+length, a, b, err, err2)
		}
	}
}

// P12.1: the errors of plans, in their order.
func TestCheckPlan(t *testing.T) {
	for i, x := range []struct {
		change func(p *api.Plan)
		e      api.Errno
	}{
		{func(p *api.Plan) { *p = api.Plan{} }, api.ErrRange},
		{func(p *api.Plan) { p.Degree, p.Prns = 8, nil }, api.ErrRange}, {func(p *api.Plan) { p.Degree, p.Prns = 4, nil }, api.ErrRange},
		{func(p *api.Plan) { p.Over, p.Prns = 0, nil }, api.ErrRange}, {func(p *api.Plan) { p.Over, p.Prns = 9, nil }, api.ErrRange},
		{func(p *api.Plan) { p.PerBit = 0 }, api.ErrRange}, {func(p *api.Plan) { p.PerBit = 21 }, api.ErrRange}, {func(p *api.Plan) { p.Words = 1 }, api.ErrRange}, {func(p *api.Plan) { p.Words = 11 }, api.ErrRange},
		{func(p *api.Plan) { p.MinAmp = 0 }, api.ErrRange}, {func(p *api.Plan) { p.MinAmp = 11 }, api.ErrRange}, {func(p *api.Plan) { p.MaxAmp = 1001 }, api.ErrRange}, {func(p *api.Plan) { p.MinAmp, p.MaxAmp = -1, 0 }, api.ErrRange},
		{func(p *api.Plan) { p.Noise = -1 }, api.ErrRange}, {func(p *api.Plan) { p.Noise, p.Prns = 100001, nil }, api.ErrRange},
		{func(p *api.Plan) { p.Prns = nil }, api.ErrForm}, {func(p *api.Plan) { p.Prns = make([]int, 9) }, api.ErrLong},
		{func(p *api.Plan) { p.Prns = []int{1, 0, 1} }, api.ErrRange}, {func(p *api.Plan) { p.Prns = []int{1, 34} }, api.ErrRange}, {func(p *api.Plan) { p.Prns = []int{33, 5, 33, 0} }, api.ErrDouble},
		{func(p *api.Plan) {
			*p = api.Plan{Degree: 10, Over: 8, PerBit: 20, Words: 10, MinAmp: 1000, MaxAmp: 1000, Noise: 100000, Prns: []int{1, 2, 3, 4, 5, 6, 7, 1025}}
		}, api.OK},
		{func(p *api.Plan) {}, api.OK},
	} {
		p := plan()
		x.change(&p)
		if e := signal.CheckPlan(p); e != x.e {
			t.Errorf("%d: CheckPlan = %v, want %v", i, e, x.e)
		}
		_, e1 := signal.Make(p, nil, nil, 0)
		e2 := signal.Check(p, api.Emitter{Prn: p.MaxAmp, Amp: -1})
		if e1 != x.e || x.e != api.OK && e2 != x.e {
			t.Errorf("%d: %v, %v, want %v", i, e1, e2, x.e)
		}
	}
}

// P12.2, P12.3: the errors of emitters, in their order.
func TestCheck(t *testing.T) {
	p := plan()
	for i, x := range []struct {
		change func(e *api.Emitter)
		e      api.Errno
	}{
		{func(e *api.Emitter) { e.Prn, e.Delay = 3, -1 }, api.ErrNone}, {func(e *api.Emitter) { e.Prn = 0 }, api.ErrNone},
		{func(e *api.Emitter) { e.Delay = -1 }, api.ErrRange}, {func(e *api.Emitter) { e.Delay = 62 }, api.ErrRange}, {func(e *api.Emitter) { e.Rate = 65 }, api.ErrRange}, {func(e *api.Emitter) { e.Rate = -65 }, api.ErrRange},
		{func(e *api.Emitter) { e.Amp = 0 }, api.ErrRange}, {func(e *api.Emitter) { e.Amp = 11 }, api.ErrRange}, {func(e *api.Emitter) { e.BitAt = -1 }, api.ErrRange}, {func(e *api.Emitter) { e.BitAt, e.Bits = 2, make([]int, 10001) }, api.ErrRange},
		{func(e *api.Emitter) { e.Bits = append(make([]int, 10000), 2) }, api.ErrLong}, {func(e *api.Emitter) { e.Bits = []int{0, 2} }, api.ErrForm}, {func(e *api.Emitter) { e.Bits = []int{-1} }, api.ErrForm},
		{func(e *api.Emitter) { e.Bits, e.Delay, e.Rate, e.Amp, e.BitAt = make([]int, 10000), 61, -64, 10, 1 }, api.OK},
	} {
		e := emitter()
		x.change(&e)
		if err := signal.Check(p, e); err != x.e {
			t.Errorf("%d: Check = %v, want %v", i, err, x.e)
		}
		if x.e == api.OK {
			continue
		}
		a, e1 := signal.Start(p, e, most+1)
		k, j, e2 := signal.Place(p, e, most+1)
		b, e3 := signal.Bit(p, e, most+1)
		s, e4 := signal.At(p, e, most+1)
		m, e5 := signal.Make(p, []api.Emitter{e, e}, nil, -1)
		if !reflect.DeepEqual([]api.Errno{e1, e2, e3, e4, e5}, slices.Repeat([]api.Errno{x.e}, 5)) || a+k+j+b != 0 || s != (api.Sample{}) || m != nil {
			t.Errorf("%d: %v, %v, %v, %v, %v, want %v", i, e1, e2, e3, e4, e5, x.e)
		}
	}
	for _, n := range []int{most + 1, -most - 1, 1 << 62} {
		_, e1 := signal.Start(p, emitter(), n)
		_, _, e2 := signal.Place(p, emitter(), n)
		_, e3 := signal.Bit(p, emitter(), n)
		_, e4 := signal.At(p, emitter(), n)
		if !reflect.DeepEqual([]api.Errno{e1, e2, e3, e4}, slices.Repeat([]api.Errno{api.ErrRange}, 4)) {
			t.Errorf("%d: %v, %v, %v, %v", n, e1, e2, e3, e4)
		}
	}
}

// P12.4: the errors of scenes, in their order.
func TestMakeErrors(t *testing.T) {
	e, other := emitter(), emitter()
	other.Prn = 2
	bad := other
	bad.Amp = 0
	noise := func(l ...api.Sample) []api.Sample { return l }
	for i, x := range []struct {
		l     []api.Emitter
		noise []api.Sample
		many  int
		e     api.Errno
	}{
		{make([]api.Emitter, 9), nil, -1, api.ErrLong}, {[]api.Emitter{e, bad, e}, nil, 0, api.ErrRange}, {[]api.Emitter{e, e, bad}, nil, 0, api.ErrDouble}, {[]api.Emitter{e, other, e}, noise(api.Sample{I: 6}), -1, api.ErrDouble},
		{nil, noise(api.Sample{I: 6}), -1, api.ErrRange}, {nil, nil, 1<<20 + 1, api.ErrRange}, {nil, noise(api.Sample{I: 6}, api.Sample{}), 1, api.ErrLong},
		{nil, noise(api.Sample{I: 6}), 1, api.ErrRange}, {nil, noise(api.Sample{}, api.Sample{Q: -6}), 2, api.ErrRange}, {[]api.Emitter{other, e}, noise(api.Sample{I: 5, Q: -5}), 1, api.OK},
	} {
		if s, err := signal.Make(plan(), x.l, x.noise, x.many); err != x.e || (s == nil) != (err != api.OK) {
			t.Errorf("%d: Make = %v, %v, want %v", i, s, err, x.e)
		}
	}
}

// The examples of the chapter.
func TestExamples(t *testing.T) {
	p, e := plan(), emitter()
	table := angle.Table()
	for n, want := range map[int]api.Sample{3: {I: -2 * table[0].I}, 13: {I: 2 * table[0].I}} {
		if s, err := signal.At(p, e, n); s != want || err != api.OK {
			t.Errorf("At(%d) = %v, %v", n, s, err)
		}
	}
	e.Phase = 1 << 30
	if s, _ := signal.At(p, e, 127); s != (api.Sample{Q: 2 * table[16].Q}) {
		t.Errorf("At(127) = %v", s)
	}
	e.Rate = -64
	for k, want := range map[int]int{0: 3, 1: 64, 16: 994, 17: 1055} {
		if d, _ := signal.Start(p, e, k); d != want {
			t.Errorf("Start(%d) = %d", k, d)
		}
	}
	e.Rate = 0
	for n, want := range map[int][2]int{3: {0, 0}, 2: {-1, 61}, 65: {1, 0}} {
		if k, i, _ := signal.Place(p, e, n); [2]int{k, i} != want {
			t.Errorf("Place(%d) = %d, %d", n, k, i)
		}
	}
}
