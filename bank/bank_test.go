package bank_test

import (
	"math/rand/v2"
	"slices"
	"testing"

	"skyfix/angle"
	"skyfix/api"
	"skyfix/bank"
	"skyfix/cross"
	"skyfix/signal"
)

func random(r *rand.Rand, many int) []api.Sample {
	s := make([]api.Sample, many)
	for i := range s {
		s[i] = api.Sample{I: r.IntN(255) - 127, Q: r.IntN(255) - 127}
	}
	return s
}

// sum returns the sum at a place by its definition.
func sum(s []api.Sample, code []int, at int) api.Sample {
	var t api.Sample
	for i, c := range code {
		if k := at + i; k >= 0 && k < len(s) {
			t.I += c * s[k].I
			t.Q += c * s[k].Q
		}
	}
	return t
}

// P14.2, P14.3: sums at all places, also outside of the list.
func TestSums(t *testing.T) {
	r := rand.New(rand.NewPCG(14, 1))
	for range 60 {
		degree, over, prn := []int{5, 6, 7}[r.IntN(3)], 1+r.IntN(4), 1+r.IntN(33)
		code, _ := cross.Samples(degree, over, prn)
		s := random(r, r.IntN(4*len(code)))
		before := slices.Clone(s)
		from := r.IntN(len(s)+2*len(code)+20) - len(code) - 10
		many := r.IntN(len(code) + 50)
		got, e := bank.Bank(s, degree, over, prn, from, many)
		if e != api.OK || len(got) != many {
			t.Fatal(e)
		}
		for k, x := range got {
			want := sum(s, code, from+k)
			one, e := bank.Sum(s, degree, over, prn, from+k)
			if x != want || one != want || e != api.OK {
				t.Fatalf("the sum at %d is %v, %v, want %v", from+k, x, one, want)
			}
		}
		windows, e := bank.Windows(s, degree, over, prn, from, 7)
		if e != api.OK || len(windows) != 7 {
			t.Fatal(e)
		}
		for k, x := range windows {
			if x != sum(s, code, from+k*len(code)) {
				t.Fatalf("the window %d is %v", k, x)
			}
		}
		half := r.IntN(65)
		three, e := bank.Three(s, degree, over, prn, from, half)
		if want := (api.Sums{Early: sum(s, code, from-half), Prompt: sum(s, code, from), Late: sum(s, code, from+half)}); three != want || e != api.OK {
			t.Fatalf("Three = %v, %v", three, e)
		}
		if !slices.Equal(s, before) {
			t.Fatal("the list has changed")
		}
	}
}

// P14.6, P14.9: sums of lists, lists behind zeros, and the greatest sums.
func TestLinear(t *testing.T) {
	r := rand.New(rand.NewPCG(14, 5))
	for range 40 {
		degree, over, prn := []int{5, 6, 7}[r.IntN(3)], 1+r.IntN(4), 1+r.IntN(33)
		code, _ := cross.Samples(degree, over, prn)
		a, b := random(r, 3*len(code)), random(r, 3*len(code))
		both := make([]api.Sample, len(a))
		for i := range a {
			a[i] = api.Sample{I: a[i].I / 2, Q: a[i].Q / 2}
			b[i] = api.Sample{I: b[i].I / 2, Q: b[i].Q / 2}
			both[i] = api.Sample{I: a[i].I + b[i].I, Q: a[i].Q + b[i].Q}
		}
		at, d := r.IntN(2*len(code)), r.IntN(50)
		x, _ := bank.Sum(a, degree, over, prn, at)
		y, _ := bank.Sum(b, degree, over, prn, at)
		z, _ := bank.Sum(both, degree, over, prn, at)
		later, e := bank.Sum(slices.Concat(make([]api.Sample, d), a), degree, over, prn, at+d)
		if z != (api.Sample{I: x.I + y.I, Q: x.Q + y.Q}) || later != x || e != api.OK {
			t.Fatalf("%v and %v are %v together; %d places later %v", x, y, z, d, later)
		}
		great := make([]api.Sample, len(code))
		for i, c := range code {
			great[i] = api.Sample{I: 127 * c, Q: -127 * c}
		}
		if s, _ := bank.Sum(great, degree, over, prn, 0); s != (api.Sample{I: 127 * len(code), Q: -127 * len(code)}) {
			t.Fatalf("the greatest sum is %v", s)
		}
	}
}

// P14.2: long lists, for which transforms are used.
func TestLongBank(t *testing.T) {
	r := rand.New(rand.NewPCG(14, 2))
	for _, x := range [][4]int{{7, 8, 3000, 1016}, {9, 2, 1500, 2000}, {10, 2, 6000, 2046}, {10, 8, 17000, 8192}, {5, 1, 9000, 8192}, {10, 8, 10, 8192}} {
		code, _ := cross.Samples(x[0], x[1], 9)
		s := random(r, x[2])
		for i := range 200 {
			s[i%len(s)] = api.Sample{I: 127, Q: -127}
		}
		for _, from := range []int{-3000, -1, 0, 777, x[2] - 5, x[2] + 10, 2000000, -2000000} {
			got, e := bank.Bank(s, x[0], x[1], 9, from, x[3])
			if e != api.OK || len(got) != x[3] {
				t.Fatal(e)
			}
			for k := 0; k < x[3]; k += 1 + x[3]/60 {
				if want := sum(s, code, from+k); got[k] != want {
					t.Fatalf("%v: the sum at %d is %v, want %v", x, from+k, got[k], want)
				}
			}
		}
	}
}

// P14.4: spinning.
func TestSpin(t *testing.T) {
	r := rand.New(rand.NewPCG(14, 3))
	table := angle.Table()
	for range 200 {
		l := make([]api.Sample, r.IntN(17))
		for i := range l {
			l[i] = api.Sample{I: r.IntN(1<<21+1) - 1<<20, Q: r.IntN(1<<21+1) - 1<<20}
		}
		spun := func(step uint32) (s api.Sample) {
			for k, x := range l {
				c := table[uint32(k)*step>>26]
				s.I += x.I*c.I + x.Q*c.Q
				s.Q += x.Q*c.I - x.I*c.Q
			}
			return s
		}
		step := r.Uint32()
		if s, e := bank.Spin(l, step); s != spun(step) || e != api.OK {
			t.Fatalf("Spin = %v, %v, want %v", s, e, spun(step))
		}
		for bins := 1; bins <= 64; bins *= 2 {
			powers, e := bank.Steps(l, bins)
			if e != api.OK || len(powers) != bins {
				t.Fatal(e)
			}
			for j, p := range powers {
				s := spun(uint32(j * (1 << 32 / bins)))
				if p != s.I*s.I+s.Q*s.Q {
					t.Fatalf("Steps = %v", powers)
				}
			}
		}
	}
	// The greatest power is still an int.
	l := slices.Repeat([]api.Sample{{I: 1 << 20, Q: 1 << 20}}, 16)
	for j := range 64 {
		s, _ := bank.Spin(l, uint32(j)<<26)
		if p := s.I*s.I + s.Q*s.Q; p < 0 {
			t.Errorf("the power of the step %d is %d", j, p)
		}
	}
}

// P14.5: Best.
func TestBest(t *testing.T) {
	r := rand.New(rand.NewPCG(14, 4))
	for range 200 {
		l := make([]api.Sample, 1+r.IntN(30))
		for i := range l {
			l[i] = api.Sample{I: r.IntN(7) - 3, Q: r.IntN(7) - 3}
		}
		at, power := 0, -1
		for i, x := range l {
			if p := x.I*x.I + x.Q*x.Q; p > power {
				at, power = i, p
			}
		}
		if a, p, e := bank.Best(l); a != at || p != power || e != api.OK {
			t.Fatalf("Best(%v) = %d, %d, %v", l, a, p, e)
		}
	}
	const great = 1<<20 + 1
	for i, x := range []struct {
		l []api.Sample
		e api.Errno
	}{{nil, api.ErrForm}, {slices.Repeat([]api.Sample{{I: great}}, 8193), api.ErrLong}, {[]api.Sample{{}, {I: great}}, api.ErrRange}, {[]api.Sample{{Q: -great}}, api.ErrRange}} {
		if a, p, e := bank.Best(x.l); a != 0 || p != 0 || e != x.e {
			t.Errorf("%d: Best = %d, %d, %v, want %v", i, a, p, e, x.e)
		}
		if x.e == api.ErrForm {
			continue
		}
		s, e := bank.Spin(x.l, 0)
		p, e2 := bank.Steps(x.l, 3)
		if s != (api.Sample{}) || p != nil || e != x.e || e2 != x.e {
			t.Errorf("%d: Spin, Steps: %v, %v, want %v", i, e, e2, x.e)
		}
	}
	if p, e := bank.Steps(make([]api.Sample, 17), 0); p != nil || e != api.ErrLong {
		t.Errorf("Steps of 17: %v", e)
	}
	for _, bins := range []int{-1, 0, 3, 5, 63, 65, 128, -1 << 63, 1 << 62} {
		if p, e := bank.Steps(nil, bins); p != nil || e != api.ErrForm {
			t.Errorf("Steps with %d bins: %v, %v", bins, p, e)
		}
	}
	if s, e := bank.Spin(nil, 5); s != (api.Sample{}) || e != api.OK {
		t.Errorf("Spin of nothing: %v, %v", s, e)
	}
}

// P14.1, P14.2, P14.3: the errors, in their order.
func TestErrors(t *testing.T) {
	long := make([]api.Sample, 1<<20+1)
	long[0].I = 128
	bad := []api.Sample{{}, {I: 128}}
	for i, x := range []struct {
		s                      []api.Sample
		degree, over, prn, at  int
		many                   int
		sum, bank, many1, half api.Errno
	}{
		{long, 8, 0, 0, 1 << 40, -1, api.ErrLong, api.ErrLong, api.ErrLong, api.ErrLong},
		{bad, 8, 0, 0, 1 << 40, -1, api.ErrRange, api.ErrRange, api.ErrRange, api.ErrRange},
		{[]api.Sample{{Q: -128}}, 5, 1, 1, 0, 0, api.ErrRange, api.ErrRange, api.ErrRange, api.ErrRange},
		{nil, 8, 1, 1, 0, 0, api.ErrRange, api.ErrRange, api.ErrRange, api.ErrRange},
		{nil, 5, 0, 1, 0, 0, api.ErrRange, api.ErrRange, api.ErrRange, api.ErrRange},
		{nil, 5, 1, 34, 0, 0, api.ErrRange, api.ErrRange, api.ErrRange, api.ErrRange},
		{nil, 5, 1, 1, 2000001, 0, api.ErrRange, api.ErrRange, api.ErrRange, api.ErrRange},
		{nil, 5, 1, 1, -2000001, 0, api.ErrRange, api.ErrRange, api.ErrRange, api.ErrRange},
		{nil, 5, 1, 1, 0, -1, api.OK, api.ErrRange, api.ErrRange, api.ErrRange},
		{nil, 5, 1, 1, 0, 65, api.OK, api.OK, api.OK, api.ErrRange},
		{nil, 5, 1, 1, 0, 1001, api.OK, api.OK, api.ErrRange, api.ErrRange},
		{nil, 5, 1, 1, 0, 8193, api.OK, api.ErrRange, api.ErrRange, api.ErrRange},
		{nil, 5, 1, 1, 2000000, 64, api.OK, api.OK, api.OK, api.OK},
		{nil, 5, 1, 1, -2000000, 0, api.OK, api.OK, api.OK, api.OK},
	} {
		s, e1 := bank.Sum(x.s, x.degree, x.over, x.prn, x.at)
		b, e2 := bank.Bank(x.s, x.degree, x.over, x.prn, x.at, x.many)
		w, e3 := bank.Windows(x.s, x.degree, x.over, x.prn, x.at, x.many)
		h, e4 := bank.Three(x.s, x.degree, x.over, x.prn, x.at, x.many)
		if e1 != x.sum || e2 != x.bank || e3 != x.many1 || e4 != x.half {
			t.Errorf("%d: %v, %v, %v, %v", i, e1, e2, e3, e4)
		}
		if s != (api.Sample{}) || e2 != api.OK && b != nil || e3 != api.OK && w != nil || h != (api.Sums{}) {
			t.Errorf("%d: there is a result beside an error", i)
		}
	}
}

// P14.7, P14.8: the sums of an emitter.
func TestEmitter(t *testing.T) {
	p := api.Plan{Degree: 5, Over: 2, PerBit: 2, Words: 2, MinAmp: 1, MaxAmp: 1, Prns: []int{7}}
	const l = 62
	for j := range 64 {
		e := api.Emitter{Prn: 7, Delay: 9, Step: uint32(j) << 26, Amp: 1, Bits: []int{0, 1, 1}}
		s, err := signal.Make(p, []api.Emitter{e}, nil, 1100)
		if err != api.OK {
			t.Fatal(err)
		}
		w, _ := bank.Windows(s, 5, 2, 7, 9, 16)
		for k, x := range w {
			bit, _ := signal.Bit(p, e, k)
			c := angle.Carrier(uint32(k) * e.Step)
			f := l * (1 - 2*bit)
			if x != (api.Sample{I: f * c.I, Q: f * c.Q}) {
				t.Fatalf("the window %d is %v", k, x)
			}
		}
		e.Bits = nil
		s, _ = signal.Make(p, []api.Emitter{e}, nil, 1100)
		w, _ = bank.Windows(s, 5, 2, 7, 9, 16)
		spun, _ := bank.Spin(w, e.Step)
		want := 0
		for k := range 16 {
			c := angle.Carrier(uint32(k) * e.Step)
			want += l * (c.I*c.I + c.Q*c.Q)
		}
		if spun != (api.Sample{I: want}) {
			t.Fatalf("the windows are spun to %v, want %d", spun, want)
		}
	}
	s, _ := signal.Make(p, []api.Emitter{{Prn: 7, Amp: 1}}, nil, 1100)
	for many := 1; many <= 16; many++ {
		w, _ := bank.Windows(s, 5, 2, 7, 0, many)
		powers, _ := bank.Steps(w, 1)
		// With no step the entries are 127, whose square is 16,129.
		if least := 16129 * l * many; powers[0] != least*least {
			t.Fatalf("the power of %d windows is %d", many, powers[0])
		}
	}
}
