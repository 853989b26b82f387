package nco_test

import (
	"math/big"
	"math/rand/v2"
	"slices"
	"testing"

	"skyfix/angle"
	"skyfix/api"
	"skyfix/cross"
	"skyfix/gold"
	"skyfix/nco"
)

func random(r *rand.Rand) api.Nco { return api.Nco{Phase: r.Uint32(), Step: r.Uint32()} }

// P11.1, P11.5: phases.
func TestPhase(t *testing.T) {
	r := rand.New(rand.NewPCG(11, 1))
	for range 500 {
		o, other := random(r), random(r)
		m, n := int(r.Uint64()), int(r.Uint64())>>r.IntN(64)
		want := new(big.Int).Mul(big.NewInt(int64(n)), big.NewInt(int64(o.Step)))
		want.Add(want, big.NewInt(int64(o.Phase))).Mod(want, big.NewInt(1<<32))
		if p := nco.Phase(o, n); uint64(p) != want.Uint64() {
			t.Fatalf("Phase(%v, %d) = %d, want %v", o, n, p, want)
		}
		if l := nco.Later(o, n); l != (api.Nco{Phase: nco.Phase(o, n), Step: o.Step}) || nco.Later(l, m) != nco.Later(o, m+n) {
			t.Fatalf("Later(%v, %d) = %v", o, n, l)
		}
		if a := nco.Apart(o, other, n); a != angle.Delta(nco.Phase(o, n), nco.Phase(other, n)) {
			t.Fatalf("Apart = %d", a)
		}
	}
	if nco.Phase(api.Nco{Phase: 1, Step: 1 << 31}, 3) != 1<<31+1 || nco.Phase(api.Nco{Phase: 5, Step: 7}, -1) != 1<<32-2 || nco.Apart(api.Nco{}, api.Nco{Phase: 1}, 9) != -1 {
		t.Error("the examples are wrong")
	}
}

// P11.2, P11.5, P11.6: waves and mixes.
func TestWave(t *testing.T) {
	r := rand.New(rand.NewPCG(11, 2))
	for range 20 {
		o := random(r)
		wave, e := nco.Wave(o, 300)
		if e != api.OK || len(wave) != 300 {
			t.Fatal(e)
		}
		for n, w := range wave {
			if w != angle.Carrier(nco.Phase(o, n)) {
				t.Fatalf("the element %d is %v", n, w)
			}
		}
		if rest, _ := nco.Wave(nco.Later(o, 100), 200); !slices.Equal(rest, wave[100:]) {
			t.Fatal("the wave, 100 samples later, is another one")
		}
		squares, e := nco.Mix(wave, o)
		if e != api.OK {
			t.Fatal(e)
		}
		for n, w := range wave {
			if squares[n] != (api.Sample{I: w.I*w.I + w.Q*w.Q}) {
				t.Fatalf("the element %d is mixed to %v", n, squares[n])
			}
		}
		checkMix(t, r, o)
	}
	for _, many := range []int{0, 1, 100000} {
		if w, e := nco.Wave(api.Nco{}, many); len(w) != many || e != api.OK {
			t.Errorf("Wave of %d: %d, %v", many, len(w), e)
		}
	}
	for _, many := range []int{-1, 100001, 1 << 62} {
		if w, e := nco.Wave(api.Nco{}, many); w != nil || e != api.ErrRange {
			t.Errorf("Wave of %d: %d, %v", many, len(w), e)
		}
	}
}

// checkMix checks that mixing is by the conjugate, and linear.
func checkMix(t *testing.T, r *rand.Rand, o api.Nco) {
	t.Helper()
	a, b := make([]api.Sample, 50), make([]api.Sample, 50)
	sum := make([]api.Sample, 50)
	for i := range a {
		a[i] = api.Sample{I: r.IntN(1<<46) - 1<<45, Q: r.IntN(1<<46) - 1<<45}
		b[i] = api.Sample{I: r.IntN(1000), Q: -r.IntN(1000)}
		sum[i] = api.Sample{I: a[i].I + b[i].I, Q: a[i].Q + b[i].Q}
	}
	before := slices.Clone(a)
	x, e1 := nco.Mix(a, o)
	y, e2 := nco.Mix(b, o)
	z, e3 := nco.Mix(sum, o)
	if e1 != api.OK || e2 != api.OK || e3 != api.OK || !slices.Equal(a, before) {
		t.Fatal(e1, e2, e3)
	}
	for i := range x {
		c := angle.Carrier(nco.Phase(o, i))
		if x[i] != (api.Sample{I: a[i].I*c.I + a[i].Q*c.Q, Q: a[i].Q*c.I - a[i].I*c.Q}) {
			t.Fatalf("%v is mixed to %v", a[i], x[i])
		}
		if z[i] != (api.Sample{I: x[i].I + y[i].I, Q: x[i].Q + y[i].Q}) {
			t.Fatal("mixing is not linear")
		}
	}
}

func TestMixErrors(t *testing.T) {
	const great = 1<<46 + 1
	long := make([]api.Sample, 1<<20+1)
	for _, s := range []api.Sample{{I: great}, {Q: great}, {I: -great}, {Q: -great}, {I: -1 << 63}} {
		if l, e := nco.Mix([]api.Sample{{}, s}, api.Nco{}); l != nil || e != api.ErrRange {
			t.Errorf("Mix of %v: %v", s, e)
		}
		long[0] = s
		if l, e := nco.Mix(long, api.Nco{}); l != nil || e != api.ErrLong {
			t.Errorf("Mix of too many: %v", e)
		}
	}
	if l, e := nco.Mix(long[1:], api.Nco{}); len(l) != 1<<20 || e != api.OK {
		t.Errorf("Mix of as many as possible: %v", e)
	}
	if l, e := nco.Mix(nil, api.Nco{}); len(l) != 0 || e != api.OK {
		t.Errorf("Mix of none: %v", e)
	}
	if l, e := nco.Mix([]api.Sample{{I: great - 1, Q: 1 - great}}, api.Nco{}); len(l) != 1 || e != api.OK {
		t.Errorf("Mix of the greatest sample: %v", e)
	}
}

// P11.3, P11.7: steps.
func TestStep(t *testing.T) {
	const most = 1 << 30
	r := rand.New(rand.NewPCG(11, 3))
	turns := []int{0, 1, -1, 3, most, -most}
	pers := []int{1, 2, 3, 4, most, most - 1}
	for range 300 {
		turns = append(turns, r.IntN(2*most+1)-most)
		pers = append(pers, 1+r.IntN(most))
	}
	for i, per := range pers {
		for _, n := range []int{turns[i], -turns[i], 1, -1, i} {
			exact := new(big.Int).Lsh(big.NewInt(int64(n)), 33)
			half := new(big.Int).Abs(exact)
			half.Add(half, big.NewInt(int64(per))).Quo(half, big.NewInt(int64(2*per)))
			if n < 0 {
				half.Neg(half)
			}
			half.Mod(half, big.NewInt(1<<32))
			if s, e := nco.Step(n, per); uint64(s) != half.Uint64() || e != api.OK {
				t.Fatalf("Step(%d, %d) = %d, %v, want %v", n, per, s, e, half)
			}
		}
	}
	for _, x := range [][2]int{{most + 1, 1}, {-most - 1, 1}, {1, 0}, {1, -1}, {1, most + 1}, {-1 << 63, 1}, {1, -1 << 63}} {
		if s, e := nco.Step(x[0], x[1]); s != 0 || e != api.ErrRange {
			t.Errorf("Step(%v) = %d, %v", x, s, e)
		}
	}
}

// P11.4, P11.8: codes that are read.
func TestChips(t *testing.T) {
	for _, over := range []int{1, 2, 4, 8} {
		samples, _ := cross.Samples(6, over, 40)
		got, e := nco.Chips(6, 40, 0, 65536/over, 3*len(samples))
		if e != api.OK || !slices.Equal(got, slices.Concat(samples, samples, samples)) {
			t.Fatalf("Chips with %d samples a chip: %v", over, e)
		}
	}
	code, _ := gold.Code(6, 40)
	for k := -70; k < 70; k++ {
		got, e := nco.Chips(6, 40, k*65536, 65536, 63)
		j := (k + 126) % 63
		if e != api.OK || !slices.Equal(got, slices.Concat(code[j:], code[:j])) {
			t.Fatalf("Chips from the chip %d: %v, %v", k, got, e)
		}
	}
	for _, x := range [][2]int{{1 << 40, 1 << 20}, {-1 << 40, -1 << 20}, {-1, -1}, {12345, -777}} {
		got, e := nco.Chips(6, 40, x[0], x[1], 1000)
		if e != api.OK {
			t.Fatal(e)
		}
		for n, c := range got {
			i := new(big.Int).Div(big.NewInt(int64(x[0]+n*x[1])), big.NewInt(65536))
			i.Mod(i, big.NewInt(63))
			if c != code[i.Int64()] {
				t.Fatalf("the chip %d of %v is %d", n, x, c)
			}
		}
	}
}

func TestChipsErrors(t *testing.T) {
	for i, x := range [][5]int{
		{8, 1, 0, 0, 0}, {5, 0, 0, 0, 0}, {5, 34, 0, 0, 0}, {5, 1, 1<<40 + 1, 0, 1}, {5, 1, -1<<40 - 1, 0, 1}, {5, 1, 0, 1<<20 + 1, 1}, {5, 1, 0, -1<<20 - 1, 1}, {5, 1, 0, 0, -1}, {5, 1, 0, 0, 100001}, {5, 1, -1 << 63, 0, 1},
	} {
		if l, e := nco.Chips(x[0], x[1], x[2], x[3], x[4]); l != nil || e != api.ErrRange {
			t.Errorf("%d: Chips = %v, %v", i, l, e)
		}
	}
	if l, e := nco.Chips(5, 1, 0, 0, 100000); len(l) != 100000 || e != api.OK {
		t.Errorf("Chips of as many as possible: %d, %v", len(l), e)
	}
	if l, e := nco.Chips(5, 1, -1, 65536, 2); !slices.Equal(l, []int{1, -1}) || e != api.OK {
		t.Errorf("Chips from -1: %v, %v", l, e)
	}
}
