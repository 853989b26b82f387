package discr_test

import (
	"math/big"
	"math/rand/v2"
	"testing"

	"skyfix/angle"
	"skyfix/api"
	"skyfix/bank"
	"skyfix/discr"
	"skyfix/signal"
)

const most = 1 << 20

func random(r *rand.Rand) api.Sample {
	size := 1 << r.IntN(21)
	return api.Sample{I: r.IntN(2*size+1) - size, Q: r.IntN(2*size+1) - size}
}

func power(s api.Sample) int { return s.I*s.I + s.Q*s.Q }

func quarter(s api.Sample) api.Sample { return api.Sample{I: -s.Q, Q: s.I} }

func times(s api.Sample, f int) api.Sample { return api.Sample{I: f * s.I, Q: f * s.Q} }

// share returns 1,024*a/b, rounded by the definition.
func share(a, b int) int {
	if b == 0 {
		return 0
	}
	n := new(big.Int).Mul(big.NewInt(2048), big.NewInt(int64(max(a, -a))))
	n.Add(n, big.NewInt(int64(b))).Quo(n, new(big.Int).Mul(big.NewInt(2), big.NewInt(int64(b))))
	if a < 0 {
		n.Neg(n)
	}
	return int(n.Int64())
}

// apart returns the number around 0 that equals x modulo m.
func apart(x, m int) int {
	x = ((x % m) + m) % m
	if x >= m/2 {
		return x - m
	}
	return x
}

// must checks that there is no error.
func must(t *testing.T, n int, e api.Errno) int {
	t.Helper()
	if e != api.OK {
		t.Fatal(e)
	}
	return n
}

// P17.2, P17.5: the code.
func TestCode(t *testing.T) {
	r := rand.New(rand.NewPCG(17, 1))
	for range 500 {
		a, b := random(r), random(r)
		code := func(a, b api.Sample) int {
			n, e := discr.Code(api.Sums{Early: a, Prompt: random(r), Late: b})
			return must(t, n, e)
		}
		c := code(a, b)
		if c != share(power(a)-power(b), power(a)+power(b)) || c < -1024 || c > 1024 {
			t.Fatalf("Code(%v, %v) = %d", a, b, c)
		}
		conj := api.Sample{I: b.I, Q: -b.Q}
		if code(b, a) != -c || code(quarter(a), b) != c || code(a, conj) != c {
			t.Fatalf("Code(%v, %v) = %d", a, b, c)
		}
		if f := most / max(1, a.I, -a.I, a.Q, -a.Q, b.I, -b.I, b.Q, -b.Q); code(times(a, -f), times(b, -f)) != c {
			t.Fatalf("Code changes when both are multiplied by %d", -f)
		}
	}
	for _, x := range []struct {
		early, late api.Sample
		want        int
	}{{api.Sample{I: 2}, api.Sample{Q: 1}, 614}, {api.Sample{Q: 1}, api.Sample{I: 2}, -614}, {api.Sample{}, api.Sample{}, 0}, {api.Sample{I: 1}, api.Sample{I: 1}, 0}, {api.Sample{I: most, Q: most}, api.Sample{}, 1024}} {
		if n, e := discr.Code(api.Sums{Early: x.early, Late: x.late}); n != x.want || e != api.OK {
			t.Errorf("Code(%v, %v) = %d, %v", x.early, x.late, n, e)
		}
	}
}

// P17.3, P17.6, P17.7: angles.
func TestAngles(t *testing.T) {
	r := rand.New(rand.NewPCG(17, 2))
	for range 500 {
		a, b := random(r), random(r)
		fine, _ := angle.Fine(a)
		n, e := discr.Full(a)
		full := must(t, n, e)
		n, e = discr.Half(a)
		half := must(t, n, e)
		if full != apart(fine, 4096) || half != apart(fine, 2048) {
			t.Fatalf("Full, Half(%v) = %d, %d", a, full, half)
		}
		turn, e := discr.Turn(a, b)
		if turn != (api.Sample{I: a.I*b.I + a.Q*b.Q, Q: a.I*b.Q - a.Q*b.I}) || e != api.OK {
			t.Fatalf("Turn(%v, %v) = %v, %v", a, b, turn, e)
		}
		fine, _ = angle.Fine(turn)
		n, e = discr.Rate(a, b)
		rate := must(t, n, e)
		n, e = discr.HalfRate(a, b)
		if rate != apart(fine, 4096) || must(t, n, e) != apart(fine, 2048) {
			t.Fatalf("Rate(%v, %v) = %d", a, b, rate)
		}
		if n, _ := discr.Rate(quarter(a), quarter(b)); n != rate {
			t.Fatal("Rate changes when both are turned")
		}
		if power(a) == 0 {
			continue
		}
		minus, _ := discr.Half(times(a, -1))
		turned, _ := discr.Full(quarter(a))
		same, _ := discr.Rate(a, a)
		on, _ := discr.Rate(a, quarter(a))
		if minus != half || turned != apart(full+1024, 4096) || same != 0 || on != 1024 {
			t.Fatalf("%v: %d, %d, %d, %d", a, minus, turned, same, on)
		}
	}
	for s, want := range map[api.Sample][2]int{{}: {0, 0}, {I: 1}: {0, 0}, {Q: 1}: {1024, -1024}, {I: -1}: {-2048, 0}, {Q: -1}: {-1024, -1024}} {
		full, _ := discr.Full(s)
		half, _ := discr.Half(s)
		if full != want[0] || half != want[1] {
			t.Errorf("Full, Half(%v) = %d, %d", s, full, half)
		}
	}
}

// P17.4, P17.6: Lock.
func TestLock(t *testing.T) {
	r := rand.New(rand.NewPCG(17, 3))
	for range 500 {
		s := random(r)
		n, e := discr.Lock(s)
		if must(t, n, e) != share(s.I*s.I-s.Q*s.Q, power(s)) {
			t.Fatalf("Lock(%v) = %d", s, n)
		}
		if m, _ := discr.Lock(quarter(s)); m != -n {
			t.Fatalf("Lock of a turned %v is %d", s, m)
		}
	}
	for s, want := range map[api.Sample]int{{I: 3}: 1024, {Q: 5}: -1024, {I: 1, Q: 1}: 0, {I: 3, Q: 1}: 819, {}: 0} {
		if n, e := discr.Lock(s); n != want || e != api.OK {
			t.Errorf("Lock(%v) = %d, %v", s, n, e)
		}
	}
}

// P17.8: the rate of an emitter.
func TestEmitter(t *testing.T) {
	p := api.Plan{Degree: 5, Over: 2, PerBit: 2, Words: 2, MinAmp: 1, MaxAmp: 1, Prns: []int{3}}
	for j := -31; j <= 31; j++ {
		e := api.Emitter{Prn: 3, Delay: 5, Step: uint32(j * (1 << 26)), Phase: 77 << 20, Amp: 1}
		s, err := signal.Make(p, []api.Emitter{e}, nil, 1100)
		if err != api.OK {
			t.Fatal(err)
		}
		w, _ := bank.Windows(s, 5, 2, 3, 5, 16)
		for k := range 15 {
			n, e := discr.Rate(w[k], w[k+1])
			if d := apart(must(t, n, e)-64*j, 4096); max(d, -d) > 16 {
				t.Fatalf("the rate of the step %d is %d", j, n)
			}
		}
	}
}

// P17.1: sums that are too great.
func TestErrors(t *testing.T) {
	good := api.Sample{I: most, Q: -most}
	for _, s := range []api.Sample{{I: most + 1}, {I: -most - 1}, {Q: most + 1}, {Q: -most - 1}, {I: 1<<63 - 1}, {Q: -1 << 63}} {
		n1, e1 := discr.Code(api.Sums{Early: s})
		n2, e2 := discr.Code(api.Sums{Prompt: s})
		n3, e3 := discr.Code(api.Sums{Late: s})
		n4, e4 := discr.Full(s)
		n5, e5 := discr.Half(s)
		n6, e6 := discr.Lock(s)
		n7, e7 := discr.Rate(s, good)
		n8, e8 := discr.Rate(good, s)
		n9, e9 := discr.HalfRate(s, good)
		n10, e10 := discr.HalfRate(good, s)
		t1, e11 := discr.Turn(s, good)
		t2, e12 := discr.Turn(good, s)
		for i, e := range []api.Errno{e1, e2, e3, e4, e5, e6, e7, e8, e9, e10, e11, e12} {
			if e != api.ErrRange {
				t.Errorf("%d: %v", i, e)
			}
		}
		if n1 != 0 || n2|n3|n4|n5|n6|n7|n8|n9|n10 != 0 || t1 != t2 || t1 != (api.Sample{}) {
			t.Error("there is a result beside an error")
		}
	}
	if n, e := discr.Rate(good, good); n != 0 || e != api.OK {
		t.Errorf("Rate of the greatest sums = %d, %v", n, e)
	}
}
