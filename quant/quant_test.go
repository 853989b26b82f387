package quant_test

import (
	"math/rand/v2"
	"reflect"
	"slices"
	"testing"

	"skyfix/api"
	"skyfix/quant"
)

const most = 1 << 46

func samples(l ...int) []api.Sample {
	var s []api.Sample
	for i := 0; i < len(l); i += 2 {
		s = append(s, api.Sample{I: l[i], Q: l[i+1]})
	}
	return s
}

func random(r *rand.Rand, many, size int) []api.Sample {
	s := make([]api.Sample, many)
	for i := range s {
		s[i] = api.Sample{I: r.IntN(2*size+1) - size, Q: r.IntN(2*size+1) - size}
	}
	return s
}

// rounded returns x/2^n, rounded by the definition.
func rounded(x, n int) int {
	d := 1 << n
	q := (2*max(x, -x) + d) / (2 * d)
	if x < 0 {
		return -q
	}
	return q
}

// level returns the level of x, and whether it is lost, by the definition.
func level(g api.Gain, x int) (int, bool) {
	q := 1<<(g.Bits-1) - 1
	r := rounded(x, g.Shift)
	if r > q {
		return q, true
	}
	if r < -q {
		return -q, true
	}
	return r, false
}

// gains returns all gains.
func gains() []api.Gain {
	var l []api.Gain
	for bits := 2; bits <= 8; bits++ {
		for shift := 0; shift <= 30; shift++ {
			l = append(l, api.Gain{Bits: bits, Shift: shift})
		}
	}
	return l
}

// P13.2, P13.6, P13.7: levels.
func TestLevel(t *testing.T) {
	r := rand.New(rand.NewPCG(13, 1))
	for _, g := range gains() {
		xs := []int{0, 1, -1, most, -most, 1 << g.Shift, 1 << g.Shift / 2, -(1 << g.Shift) / 2, 1<<g.Shift/2 - 1, (1<<(g.Bits-1) - 1) << g.Shift}
		for range 60 {
			xs = append(xs, (r.IntN(2*most+1)-most)>>r.IntN(46))
		}
		slices.Sort(xs)
		last := -1 << 62
		coarse, e := quant.Coarse(g)
		if e != api.OK || coarse != map[bool]int{true: 0, false: 1 << max(g.Shift-1, 0)}[g.Shift == 0] {
			t.Fatalf("Coarse(%v) = %d, %v", g, coarse, e)
		}
		for _, x := range xs {
			l, lost, e := quant.Level(g, x)
			wl, wlost := level(g, x)
			if l != wl || lost != wlost || e != api.OK {
				t.Fatalf("Level(%v, %d) = %d, %v, %v", g, x, l, lost, e)
			}
			if d := l<<g.Shift - x; !lost && max(d, -d) > coarse {
				t.Fatalf("Level(%v, %d) is off by %d", g, x, d)
			}
			if m, _, _ := quant.Level(g, -x); m != -l || l < last {
				t.Fatalf("the level of %d is %d", -x, m)
			}
			last = l
		}
	}
}

// P13.2: Quantise and Restore; P13.5: Counts.
func TestQuantise(t *testing.T) {
	r := rand.New(rand.NewPCG(13, 2))
	for i, g := range gains() {
		s := random(r, i%40, 200<<g.Shift)
		before := slices.Clone(s)
		got, e := quant.Quantise(s, g)
		counts, e2 := quant.Counts(s, g)
		if e != api.OK || e2 != api.OK || !slices.Equal(s, before) {
			t.Fatal(e, e2)
		}
		lost := 0
		q := 1<<(g.Bits-1) - 1
		want := make([]int, 2*q+1)
		for k, x := range s {
			a, la := level(g, x.I)
			b, lb := level(g, x.Q)
			if got.S[k] != (api.Sample{I: a, Q: b}) {
				t.Fatalf("Quantise(%v, %v) = %v", x, g, got.S[k])
			}
			if la || lb {
				lost++
			}
			want[a+q]++
			want[b+q]++
		}
		if got.Lost != lost || len(got.S) != len(s) || !slices.Equal(counts, want) {
			t.Fatalf("Quantise loses %d, want %d; Counts = %v, want %v", got.Lost, lost, counts, want)
		}
		back, e := quant.Restore(got.S, g)
		if e != api.OK {
			t.Fatal(e)
		}
		for k, x := range got.S {
			if back[k] != (api.Sample{I: x.I << g.Shift, Q: x.Q << g.Shift}) {
				t.Fatalf("Restore = %v", back[k])
			}
		}
	}
}

// P13.3, P13.8: the least gain.
func TestLeast(t *testing.T) {
	r := rand.New(rand.NewPCG(13, 3))
	for range 300 {
		bits := 2 + r.IntN(7)
		s := random(r, r.IntN(20), 1<<r.IntN(46))
		g, e := quant.Least(s, bits)
		want := api.Gain{Bits: bits}
		for ; want.Shift <= 30; want.Shift++ {
			if q, _ := quant.Quantise(s, want); q.Lost == 0 {
				break
			}
		}
		if want.Shift > 30 {
			if g != (api.Gain{}) || e != api.ErrOver {
				t.Fatalf("Least = %v, %v", g, e)
			}
		} else if g != want || e != api.OK {
			t.Fatalf("Least = %v, %v, want %v", g, e, want)
		}
	}
	for _, bits := range []int{-1, 0, 1, 9, 1 << 62} {
		if g, e := quant.Least(make([]api.Sample, 1<<20+1), bits); g != (api.Gain{}) || e != api.ErrRange {
			t.Errorf("Least of %d bits: %v, %v", bits, g, e)
		}
	}
	if g, e := quant.Least(nil, 8); g != (api.Gain{Bits: 8}) || e != api.OK {
		t.Errorf("Least of nothing: %v, %v", g, e)
	}
	if g, e := quant.Least(samples(100, -3), 3); g != (api.Gain{Bits: 3, Shift: 5}) || e != api.OK {
		t.Errorf("Least = %v, %v", g, e)
	}
}

// P13.4, P13.9: the next gain.
func TestAdapt(t *testing.T) {
	r := rand.New(rand.NewPCG(13, 4))
	all := gains()
	for range 500 {
		g := all[r.IntN(len(all))]
		s := random(r, r.IntN(60), 1<<r.IntN(46))
		next, e := quant.Adapt(s, g)
		m, lost, want := 0, 0, g
		for _, x := range s {
			m = max(m, rounded(max(x.I, -x.I), g.Shift), rounded(max(x.Q, -x.Q), g.Shift))
			_, la := level(g, x.I)
			if _, lb := level(g, x.Q); la || lb {
				lost++
			}
		}
		if 16*lost > len(s) {
			want.Shift = min(want.Shift+1, 30)
		} else if 4*m <= 1<<(g.Bits-1)-1 {
			want.Shift = max(want.Shift-1, 0)
		}
		if next != want || e != api.OK {
			t.Fatalf("Adapt(%v) = %v, %v, want %v", g, next, e, want)
		}
		for range 31 {
			g, _ = quant.Adapt(s, g)
		}
		if next, _ := quant.Adapt(s, g); next != g {
			t.Fatalf("Adapt does not end: %v, %v", g, next)
		}
	}
	for _, x := range []struct {
		s       []api.Sample
		g, want api.Gain
	}{
		{samples(100, 0), api.Gain{Bits: 3, Shift: 1}, api.Gain{Bits: 3, Shift: 2}}, {samples(1, 0), api.Gain{Bits: 5, Shift: 3}, api.Gain{Bits: 5, Shift: 2}}, {samples(1, 0), api.Gain{Bits: 2}, api.Gain{Bits: 2}},
		{nil, api.Gain{Bits: 2}, api.Gain{Bits: 2}}, {nil, api.Gain{Bits: 2, Shift: 30}, api.Gain{Bits: 2, Shift: 29}}, {samples(most, 0), api.Gain{Bits: 2, Shift: 30}, api.Gain{Bits: 2, Shift: 30}},
		{slices.Concat(samples(100, 0), make([]api.Sample, 15)), api.Gain{Bits: 3}, api.Gain{Bits: 3}}, {slices.Concat(samples(100, 0), make([]api.Sample, 14)), api.Gain{Bits: 3}, api.Gain{Bits: 3, Shift: 1}},
	} {
		if g, e := quant.Adapt(x.s, x.g); g != x.want || e != api.OK {
			t.Errorf("Adapt(%v, %v) = %v, %v", x.s, x.g, g, e)
		}
	}
}

// P13.1: the errors, in their order.
func TestErrors(t *testing.T) {
	long := make([]api.Sample, 1<<20+1)
	long[0].I = most + 1
	good := api.Gain{Bits: 3, Shift: 1}
	for i, x := range []struct {
		g api.Gain
		s []api.Sample
		e api.Errno
	}{
		{api.Gain{}, long, api.ErrRange}, {api.Gain{Bits: 1}, long, api.ErrRange}, {api.Gain{Bits: 9}, long, api.ErrRange}, {api.Gain{Bits: 2, Shift: -1}, long, api.ErrRange}, {api.Gain{Bits: 2, Shift: 31}, long, api.ErrRange},
		{good, long, api.ErrLong}, {good, samples(0, 0, most+1, 0), api.ErrRange}, {good, samples(0, -most-1), api.ErrRange}, {good, samples(0, -1<<63), api.ErrRange}, {good, samples(1<<63-1, 0), api.ErrRange},
	} {
		q, e1 := quant.Quantise(x.s, x.g)
		g, e2 := quant.Adapt(x.s, x.g)
		c, e3 := quant.Counts(x.s, x.g)
		r, e4 := quant.Restore(x.s, x.g)
		if e1 != x.e || e2 != x.e || e3 != x.e || e4 != x.e {
			t.Errorf("%d: %v, %v, %v, %v, want %v", i, e1, e2, e3, e4, x.e)
		}
		if !reflect.DeepEqual(q, api.Quantised{}) || g != (api.Gain{}) || c != nil || r != nil {
			t.Errorf("%d: there is a result beside an error", i)
		}
		if x.g == good {
			if _, e := quant.Least(x.s, 3); e != x.e {
				t.Errorf("%d: Least: %v, want %v", i, e, x.e)
			}
			continue
		}
		l, lost, e1 := quant.Level(x.g, most+1)
		k, e2 := quant.Coarse(x.g)
		if e3 := quant.Check(x.g); l != 0 || lost || k != 0 || e1 != x.e || e2 != x.e || e3 != x.e {
			t.Errorf("%d: %v, %v, %v, want %v", i, e1, e2, e3, x.e)
		}
	}
	for _, x := range []int{most + 1, -most - 1, -1 << 63} {
		if l, lost, e := quant.Level(good, x); l != 0 || lost || e != api.ErrRange {
			t.Errorf("Level(%d) = %d, %v, %v", x, l, lost, e)
		}
	}
	for _, s := range [][]api.Sample{samples(4, 0), samples(0, -4), samples(3, 3, 0, 4)} {
		if r, e := quant.Restore(s, good); r != nil || e != api.ErrRange {
			t.Errorf("Restore(%v) = %v, %v", s, r, e)
		}
	}
	if l, lost, e := quant.Level(good, 7); l != 3 || !lost || e != api.OK {
		t.Errorf("Level(7) = %d, %v, %v", l, lost, e)
	}
}
