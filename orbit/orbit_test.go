package orbit_test

import (
	"math/big"
	"math/rand/v2"
	"testing"

	"skyfix/almanac"
	"skyfix/api"
	"skyfix/orbit"
)

const (
	second = 1000000000
	week   = 604800 * second
)

// example is the ephemeris of the chapter's examples.
func example() api.Ephemeris {
	return api.Ephemeris{Prn: 1, T0: 100, X: [4]int{1000, -2000, 1024, 0}, Y: [4]int{0, 0, 0, 4194304}, Clock: [3]int{1024, 0, 0}}
}

// signed returns a number of so many bits, now and then an extreme one.
func signed(r *rand.Rand, bits int) int {
	low, high := -1<<(bits-1), 1<<(bits-1)-1
	switch r.IntN(5) {
	case 0:
		return low
	case 1:
		return high
	}
	return (low + r.IntN(high-low+1)) >> r.IntN(bits)
}

func random(r *rand.Rand) api.Ephemeris {
	e := api.Ephemeris{Prn: 1 + r.IntN(63), Issue: r.IntN(256), T0: r.IntN(604800), Acc: r.IntN(65536)}
	for i, bits := range []int{32, 24, 16} {
		e.Clock[i] = signed(r, bits)
	}
	for i, bits := range []int{32, 24, 22, 24} {
		e.X[i], e.Y[i], e.Z[i] = signed(r, bits), signed(r, bits), signed(r, bits)
	}
	return e
}

// near returns a time at which an ephemeris holds, and its distance in nanoseconds.
func near(r *rand.Rand, e api.Ephemeris) (t, d int) {
	d = r.IntN(2*7200*second+1) - 7200*second
	switch r.IntN(4) {
	case 0:
		d = []int{0, 7200 * second, -7200 * second}[r.IntN(3)]
	case 1:
		d -= d % second
	}
	return (e.T0*second + d + week) % week, d
}

// rounded returns x, rounded halves away from 0.
func rounded(x *big.Rat) int {
	q := new(big.Int).Abs(x.Num())
	q.Lsh(q, 1).Add(q, x.Denom()).Quo(q, new(big.Int).Lsh(x.Denom(), 1))
	if x.Sign() < 0 {
		q.Neg(q)
	}
	return int(q.Int64())
}

// ceil returns x, rounded up.
func ceil(x *big.Rat) int {
	q := new(big.Int).Neg(new(big.Int).Div(new(big.Int).Neg(x.Num()), x.Denom()))
	return int(q.Int64())
}

// sum returns the sum of c*s^k/2^shift for triples of c, k and shift.
func sum(s *big.Rat, l ...[3]int) *big.Rat {
	total := new(big.Rat)
	for _, x := range l {
		part := new(big.Rat).SetFrac(big.NewInt(int64(x[0])), new(big.Int).Lsh(big.NewInt(1), uint(x[2])))
		for range x[1] {
			part.Mul(part, s)
		}
		total.Add(total, part)
	}
	return total
}

func coordinates(p api.Point) [3]int { return [3]int{p.X, p.Y, p.Z} }

// P28.1, P28.2: positions, velocities and clocks by the definitions.
func TestEvaluated(t *testing.T) {
	r := rand.New(rand.NewPCG(28, 1))
	for range 500 {
		e := random(r)
		at, d := near(r, e)
		s := big.NewRat(int64(d), second)
		p, e1 := orbit.Position(e, at)
		v, e2 := orbit.Velocity(e, at)
		k, e3 := orbit.Clock(e, at)
		if e1 != api.OK || e2 != api.OK || e3 != api.OK {
			t.Fatal(e1, e2, e3)
		}
		for i, c := range [3][4]int{e.X, e.Y, e.Z} {
			want := rounded(sum(s, [3]int{16 * c[0], 0, 0}, [3]int{c[1], 1, 0}, [3]int{c[2], 2, 10}, [3]int{c[3], 3, 26}))
			speed := rounded(sum(s, [3]int{c[1], 0, 0}, [3]int{2 * c[2], 1, 10}, [3]int{3 * c[3], 2, 26}))
			if coordinates(p)[i] != want || coordinates(v)[i] != speed {
				t.Fatalf("%v at %d: %v, %v, want %d, %d", e, at, p, v, want, speed)
			}
		}
		clock := sum(s, [3]int{e.Clock[0], 0, 0}, [3]int{e.Clock[1], 1, 16}, [3]int{e.Clock[2], 2, 40})
		if want := rounded(clock.Mul(clock, big.NewRat(299792458, 1024*1000000))); k != want {
			t.Fatalf("Clock(%v, %d) = %d, want %d", e, at, k, want)
		}
	}
}

// P28.3, P28.4: bounds of the velocity.
func TestSpeed(t *testing.T) {
	r := rand.New(rand.NewPCG(28, 2))
	for range 300 {
		e := random(r)
		bound, err := orbit.Speed(e)
		if err != api.OK {
			t.Fatal(err)
		}
		a, da := near(r, e)
		b, db := near(r, e)
		p, _ := orbit.Position(e, a)
		q, _ := orbit.Position(e, b)
		v, _ := orbit.Velocity(e, a)
		apart := max(da-db, db-da)
		for i, c := range [3][4]int{e.X, e.Y, e.Z} {
			abs := func(x int) int { return max(x, -x) }
			want := ceil(sum(big.NewRat(7200, 1), [3]int{abs(c[1]), 0, 0}, [3]int{2 * abs(c[2]), 1, 10}, [3]int{3 * abs(c[3]), 2, 26}))
			k := coordinates(bound)[i]
			if k != want {
				t.Fatalf("Speed(%v) = %v, want %d", e, bound, want)
			}
			moved := new(big.Rat).SetInt64(int64(abs(coordinates(p)[i]-coordinates(q)[i]) - 1))
			if moved.Cmp(new(big.Rat).Mul(big.NewRat(int64(k), 1), big.NewRat(int64(apart), second))) > 0 || abs(coordinates(v)[i]) > k+1 {
				t.Fatalf("%v moves by %v in %d ns, bound %v", e, moved, apart, bound)
			}
		}
	}
}

// P28.5: at T0, and with opposite signs.
func TestSigns(t *testing.T) {
	r := rand.New(rand.NewPCG(28, 3))
	for range 200 {
		e := random(r)
		p, _ := orbit.Position(e, e.T0*second)
		v, _ := orbit.Velocity(e, e.T0*second)
		if p != (api.Point{X: 16 * e.X[0], Y: 16 * e.Y[0], Z: 16 * e.Z[0]}) || v != (api.Point{X: e.X[1], Y: e.Y[1], Z: e.Z[1]}) {
			t.Fatalf("%v at T0: %v, %v", e, p, v)
		}
		at, _ := near(r, e)
		minus := e
		for i := range 4 {
			minus.X[i], minus.Y[i], minus.Z[i] = -e.X[i], -e.Y[i], -e.Z[i]
		}
		p, _ = orbit.Position(e, at)
		if q, err := orbit.Position(minus, at); err == api.OK && q != (api.Point{X: -p.X, Y: -p.Y, Z: -p.Z}) {
			t.Fatalf("%v and its opposite: %v, %v", e, p, q)
		}
	}
}

// P28.3, P28.6: coarse pages.
func TestCoarse(t *testing.T) {
	r := rand.New(rand.NewPCG(28, 4))
	valid := 0
	for range 600 {
		e := random(r)
		if r.IntN(3) > 0 {
			for _, c := range [3]*[4]int{&e.X, &e.Y, &e.Z} {
				*c = [4]int{c[0] / 2, c[1] / 2, c[2] / 2, c[3] / 100}
			}
		}
		hours := 1 + r.IntN(2)
		h := big.NewRat(int64(3600*hours), 1)
		want := api.Page{Prn: e.Prn, T0: e.T0, Err: ceil(big.NewRat(int64(33000+e.Acc), 1000))}
		m := 0
		var q [3][3]int
		for i, c := range [3][4]int{e.X, e.Y, e.Z} {
			q[i] = [3]int{rounded(big.NewRat(int64(16*c[0]), 64000)), rounded(big.NewRat(int64(c[1]), 1000)), rounded(big.NewRat(int64(c[2]), 1000))}
			m = max(m, c[3], -c[3])
		}
		want.X, want.Y, want.Z = q[0], q[1], q[2]
		grow := sum(h, [3]int{1, 0, 1}, [3]int{1, 1, 11})
		cube := new(big.Rat).Mul(big.NewRat(int64(m), 1<<26*1000), new(big.Rat).Mul(h, h))
		grow.Add(grow, cube).Mul(grow, big.NewRat(3600, 1)).Add(grow, big.NewRat(1, 1))
		want.Grow = ceil(grow)
		p, err := orbit.Coarse(e, hours)
		if almanac.Check(want) != api.OK {
			if p != (api.Page{}) || err != api.ErrOver {
				t.Fatalf("Coarse(%v) = %v, %v", e, p, err)
			}
			continue
		}
		if p != want || err != api.OK {
			t.Fatalf("Coarse(%v) = %v, %v, want %v", e, p, err, want)
		}
		valid++
		checkCoarse(t, r, e, p, hours)
	}
	if valid < 50 {
		t.Errorf("only %d pages are valid", valid)
	}
	if p, err := orbit.Coarse(example(), 1); p != (api.Page{}) || err != api.ErrOver {
		t.Errorf("Coarse = %v, %v", p, err)
	}
}

// checkCoarse checks that positions differ by at most the page's bound.
func checkCoarse(t *testing.T, r *rand.Rand, e api.Ephemeris, p api.Page, hours int) {
	t.Helper()
	for range 10 {
		s := (e.T0 + r.IntN(2*3600*hours+1) - 3600*hours + 604800) % 604800
		exact, err := orbit.Position(e, s*second)
		rough, _ := almanac.At(p, s)
		bound, _ := almanac.Error(p, s)
		if err != api.OK {
			t.Fatal(err)
		}
		for i, x := range coordinates(exact) {
			if d := x - 1000*rough[i]; max(d, -d) > 1000*bound {
				t.Fatalf("%v at %d: the page is off by %d mm, more than %d m", e, s, d, bound)
			}
		}
	}
}

// The examples of the chapter.
func TestExamples(t *testing.T) {
	e := example()
	for at, want := range map[int]api.Point{100 * second: {X: 16000}, 101 * second: {X: 14001}, 99 * second: {X: 18001}, 104 * second: {X: 8016, Y: 4}, 100500000000: {X: 15000}, 7300 * second: {X: 37456000, Y: 23328000000}} {
		if p, err := orbit.Position(e, at); p != want || err != api.OK {
			t.Errorf("Position(%d) = %v, %v, want %v", at, p, err, want)
		}
	}
	if v, err := orbit.Velocity(e, 104*second); v != (api.Point{X: -1992, Y: 3}) || err != api.OK {
		t.Errorf("Velocity = %v, %v", v, err)
	}
	if k, err := orbit.Clock(e, 100*second); k != 300 || err != api.OK {
		t.Errorf("Clock = %v, %v", k, err)
	}
	if s, err := orbit.Speed(e); s != (api.Point{X: 16400, Y: 9720000}) || err != api.OK {
		t.Errorf("Speed = %v, %v", s, err)
	}
}

// The errors, in their order.
func TestErrors(t *testing.T) {
	bad := example()
	bad.Prn = 0
	for i, x := range []struct {
		e   api.Ephemeris
		t   int
		err api.Errno
	}{
		{bad, 100 * second, api.ErrRange}, {example(), -1, api.ErrRange}, {example(), week, api.ErrRange}, {example(), 1<<63 - 1, api.ErrRange}, {example(), -1 << 63, api.ErrRange},
		{example(), 7300*second + 1, api.ErrOld}, {example(), week - 7100*second - 1, api.ErrOld}, {example(), week / 2, api.ErrOld},
	} {
		p, e1 := orbit.Position(x.e, x.t)
		v, e2 := orbit.Velocity(x.e, x.t)
		k, e3 := orbit.Clock(x.e, x.t)
		if e1 != x.err || e2 != x.err || e3 != x.err || p != (api.Point{}) || v != p || k != 0 {
			t.Errorf("%d: %v, %v, %v, want %v", i, e1, e2, e3, x.err)
		}
	}
	if _, err := orbit.Position(example(), week-7100*second); err != api.OK {
		t.Errorf("Position across the end of the week: %v", err)
	}
	if s, err := orbit.Speed(bad); s != (api.Point{}) || err != api.ErrRange {
		t.Errorf("Speed: %v", err)
	}
	for _, h := range []int{0, 3, -1} {
		if p, err := orbit.Coarse(example(), h); p != (api.Page{}) || err != api.ErrRange {
			t.Errorf("Coarse(%d): %v", h, err)
		}
	}
	if p, err := orbit.Coarse(bad, 1); p != (api.Page{}) || err != api.ErrRange {
		t.Errorf("Coarse: %v", err)
	}
}
