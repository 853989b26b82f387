package distance_test

import (
	"math/big"
	"math/rand/v2"
	"testing"

	"skyfix/api"
	"skyfix/distance"
)

const (
	unit  = 1 << 30
	most  = 100000000000
	reach = 400000000000
)

// random returns a near point; now and then an extreme one.
func random(r *rand.Rand) api.Point {
	size := []int{3, 1000, most}[r.IntN(3)]
	if r.IntN(10) == 0 {
		s := func() int { return most * (2*r.IntN(2) - 1) }
		return api.Point{X: s(), Y: s(), Z: s()}
	}
	c := func() int { return r.IntN(2*size+1) - size }
	return api.Point{X: c(), Y: c(), Z: c()}
}

func minus(p, q api.Point) [3]int { return [3]int{p.X - q.X, p.Y - q.Y, p.Z - q.Z} }

func of(x int) *big.Int { return big.NewInt(int64(x)) }

// square returns the square of the distance.
func square(p, q api.Point) *big.Int {
	s := new(big.Int)
	for _, d := range minus(p, q) {
		s.Add(s, new(big.Int).Mul(of(d), of(d)))
	}
	return s
}

// P32.1, P32.4: ranges.
func TestRange(t *testing.T) {
	r := rand.New(rand.NewPCG(32, 1))
	for range 2000 {
		p, q, s := random(r), random(r), random(r)
		d, e := distance.Range(p, q)
		if want := new(big.Int).Sqrt(square(p, q)); int64(d) != want.Int64() || e != api.OK {
			t.Fatalf("Range(%v, %v) = %d, %v, want %v", p, q, d, e, want)
		}
		back, _ := distance.Range(q, p)
		a, _ := distance.Range(p, s)
		b, _ := distance.Range(s, q)
		if back != d || d > a+b+1 {
			t.Fatalf("ranges of %v, %v, %v: %d, %d, %d, %d", p, q, s, d, back, a, b)
		}
	}
	far := api.Point{X: -most, Y: -most, Z: -most}
	if d, e := distance.Range(far, api.Point{X: most, Y: most, Z: most}); d != 346410161513 || e != api.OK {
		t.Errorf("Range = %d, %v", d, e)
	}
}

// P32.1, P32.5: directions.
func TestDirection(t *testing.T) {
	r := rand.New(rand.NewPCG(32, 2))
	for range 2000 {
		p, q := random(r), random(r)
		u, e := distance.Direction(p, q)
		if p == q {
			if u != (api.Point{}) || e != api.ErrZero {
				t.Fatalf("Direction(%v, %v) = %v, %v", p, q, u, e)
			}
			continue
		}
		s := square(p, q)
		length := new(big.Int)
		for i, n := range minus(u, api.Point{}) {
			d := minus(q, p)[i]
			length.Add(length, new(big.Int).Mul(of(n), of(n)))
			// |n| - 1/2 <= |d|*unit/D < |n| + 1/2, as squares.
			exact := new(big.Int).Mul(of(2*unit), of(d))
			exact.Mul(exact, exact)
			low, high := of(2*max(n, -n)-1), of(2*max(n, -n)+1)
			low.Mul(low, low).Mul(low, s)
			high.Mul(high, high).Mul(high, s)
			if n != 0 && low.Cmp(exact) > 0 || high.Cmp(exact) <= 0 || n > 0 && d < 0 || n < 0 && d > 0 || e != api.OK {
				t.Fatalf("Direction(%v, %v) = %v, %v", p, q, u, e)
			}
		}
		if off := length.Sub(length, new(big.Int).Lsh(of(1), 60)); off.Abs(off).Cmp(of(1<<32)) >= 0 {
			t.Fatalf("the length of %v is off by %v", u, off)
		}
		if v, _ := distance.Direction(q, p); v != (api.Point{X: -u.X, Y: -u.Y, Z: -u.Z}) {
			t.Fatalf("the direction back is %v, not that of %v", v, u)
		}
	}
	for want, q := range map[api.Point]api.Point{{Z: unit}: {Z: 5}, {X: 644245094, Y: 858993459}: {X: 3, Y: 4}, {X: 759250125, Y: 759250125}: {X: 1, Y: 1}} {
		if u, e := distance.Direction(api.Point{}, q); u != want || e != api.OK {
			t.Errorf("Direction(0, %v) = %v, %v", q, u, e)
		}
	}
}

// P32.2: lengths along directions.
func TestAlong(t *testing.T) {
	r := rand.New(rand.NewPCG(32, 3))
	for range 2000 {
		c := func() int { return r.IntN(2*unit+1) - unit }
		u, v := api.Point{X: c(), Y: c(), Z: c()}, random(r)
		sum := new(big.Int)
		for i, x := range minus(u, api.Point{}) {
			sum.Add(sum, new(big.Int).Mul(of(x), of(minus(v, api.Point{})[i])))
		}
		want := new(big.Int).Abs(sum)
		want.Add(want, of(unit/2)).Quo(want, of(unit))
		if sum.Sign() < 0 {
			want.Neg(want)
		}
		if n, e := distance.Along(u, v); int64(n) != want.Int64() || e != api.OK {
			t.Fatalf("Along(%v, %v) = %d, %v, want %v", u, v, n, e, want)
		}
	}
	for want, x := range map[int][2]api.Point{-9: {{Z: unit}, {X: 7, Y: 8, Z: -9}}, 3: {{X: unit / 2}, {X: 5}}, -3: {{X: unit / 2}, {X: -5}}} {
		if n, e := distance.Along(x[0], x[1]); n != want || e != api.OK {
			t.Errorf("Along = %d, %v, want %d", n, e, want)
		}
	}
	for _, x := range [][2]api.Point{{{X: unit + 1}, {}}, {{Y: -unit - 1}, {}}, {{}, {Z: most + 1}}, {{Z: -1 << 63}, {}}, {{}, {X: -1 << 63}}} {
		if n, e := distance.Along(x[0], x[1]); n != 0 || e != api.ErrRange {
			t.Errorf("Along(%v) = %d, %v", x, n, e)
		}
	}
}

// P32.3: bounds.
func TestBounds(t *testing.T) {
	r := rand.New(rand.NewPCG(32, 4))
	for range 2000 {
		a := r.IntN(reach+1) >> r.IntN(30)
		h := r.IntN(a+1) >> r.IntN(30)
		n, e := distance.Curve(a, h)
		if h >= a {
			if n != 0 || e != api.ErrRange {
				t.Fatalf("Curve(%d, %d) = %d, %v", a, h, n, e)
			}
			continue
		}
		want := new(big.Int).Mul(of(h), of(h))
		d := of(2 * (a - h))
		want.Add(want, d).Sub(want, of(1)).Quo(want, d)
		if want.IsInt64() && (int64(n) != want.Int64() || e != api.OK) || !want.IsInt64() && (n != 0 || e != api.ErrOver) {
			t.Fatalf("Curve(%d, %d) = %d, %v, want %v", a, h, n, e, want)
		}
		s, e := distance.Slack(h)
		if (s-1)*unit < h || (s-2)*unit >= h || e != api.OK {
			t.Fatalf("Slack(%d) = %d, %v", h, s, e)
		}
		p, q := random(r), random(r)
		d2, _ := distance.Range(p, q)
		if lo, hi, e := distance.Span(p, q, h); lo != max(0, d2-h) || hi != d2+h || e != api.OK {
			t.Fatalf("Span = %d, %d, %v", lo, hi, e)
		}
	}
	for _, x := range [][2]int{{-1, 0}, {0, 0}, {5, 5}, {5, 6}, {5, -1}, {reach + 1, 5}, {1<<63 - 1, 0}} {
		if n, e := distance.Curve(x[0], x[1]); n != 0 || e != api.ErrRange {
			t.Errorf("Curve(%v) = %d, %v", x, n, e)
		}
	}
	if n, e := distance.Curve(reach, reach-1); n != 0 || e != api.ErrOver {
		t.Errorf("Curve = %d, %v", n, e)
	}
	for _, h := range []int{-1, reach + 1, -1 << 63} {
		n, e1 := distance.Slack(h)
		lo, hi, e2 := distance.Span(api.Point{}, api.Point{}, h)
		if n|lo|hi != 0 || e1 != api.ErrRange || e2 != api.ErrRange {
			t.Errorf("Slack, Span(%d): %v, %v", h, e1, e2)
		}
	}
	for h, want := range map[int]int{0: 1, unit: 2, unit + 1: 3} {
		if n, _ := distance.Slack(h); n != want {
			t.Errorf("Slack(%d) = %d", h, n)
		}
	}
}

// P32.6, P32.7: the linear bound, and spans.
func TestLinear(t *testing.T) {
	r := rand.New(rand.NewPCG(32, 5))
	for range 2000 {
		p, q := random(r), random(r)
		a, _ := distance.Range(p, q)
		if a < 10 {
			continue
		}
		d := r.IntN((a-1)/2) >> r.IntN(20)
		c := func(x int) int { return max(-most, min(most, x+r.IntN(2*d+1)-d)) }
		x := api.Point{X: c(p.X), Y: c(p.Y), Z: c(p.Z)}
		h := 2 * d
		u, _ := distance.Direction(p, q)
		moved := minus(x, p)
		along, _ := distance.Along(u, api.Point{X: moved[0], Y: moved[1], Z: moved[2]})
		b, _ := distance.Range(x, q)
		curve, e := distance.Curve(a, h)
		slack, _ := distance.Slack(h)
		if off := b - (a - along); e != api.OK || max(off, -off) > curve+slack+2 {
			t.Fatalf("the range of %v and %v is %d, off by %d (%d, %d)", x, q, b, off, curve, slack)
		}
		if lo, hi, _ := distance.Span(p, q, h); b < lo || b > hi {
			t.Fatalf("the range %d is not from %d to %d", b, lo, hi)
		}
	}
}

// Points that are not near.
func TestErrors(t *testing.T) {
	for _, p := range []api.Point{{X: most + 1}, {Y: -most - 1}, {Z: most + 1}, {X: -1 << 63}, {Z: 1<<63 - 1}} {
		for _, x := range [][2]api.Point{{p, {}}, {{}, p}, {p, p}} {
			n, e1 := distance.Range(x[0], x[1])
			u, e2 := distance.Direction(x[0], x[1])
			lo, hi, e3 := distance.Span(x[0], x[1], -1)
			if e1 != api.ErrRange || e2 != api.ErrRange || e3 != api.ErrRange || n|lo|hi != 0 || u != (api.Point{}) {
				t.Errorf("%v: %v, %v, %v", x, e1, e2, e3)
			}
		}
	}
}
