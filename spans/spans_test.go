package spans_test

import (
	"math/big"
	"math/rand/v2"
	"slices"
	"testing"

	"skyfix/api"
	"skyfix/spans"
)

const week = 604800000

// P29.1, P29.5: times and places.
func TestTime(t *testing.T) {
	r := rand.New(rand.NewPCG(29, 1))
	for range 2000 {
		words, perbit, ms := 2+r.IntN(9), 1+r.IntN(20), r.IntN(week)
		f, b, p, e := spans.Place(words, perbit, ms)
		if e != api.OK || f < 0 || b < 0 || b >= 30*words || p < 0 || p >= perbit || (f*30*words+b)*perbit+p != ms {
			t.Fatalf("Place(%d, %d, %d) = %d, %d, %d, %v", words, perbit, ms, f, b, p, e)
		}
		if got, e := spans.Time(words, perbit, f, b, p); got != ms || e != api.OK {
			t.Fatalf("Time = %d, %v, want %d", got, e, ms)
		}
	}
	for i, x := range []struct {
		words, perbit, f, b, p, want int
		e                            api.Errno
	}{
		{10, 20, 1, 0, 3, 6003, api.OK}, {10, 20, 0, 299, 19, 5999, api.OK}, {10, 20, 0, 300, 0, 0, api.ErrRange}, {10, 20, 0, -1, 0, 0, api.ErrRange}, {10, 20, 0, 0, 20, 0, api.ErrRange}, {10, 20, 0, 0, -1, 0, api.ErrRange},
		{10, 20, -1, 0, 0, 0, api.ErrRange}, {1, 20, 0, 0, 0, 0, api.ErrRange}, {11, 20, 0, 0, 0, 0, api.ErrRange}, {10, 0, 0, 0, 0, 0, api.ErrRange}, {10, 21, 0, 0, 0, 0, api.ErrRange},
		{10, 20, 100799, 299, 19, week - 1, api.OK}, {10, 20, 100800, 0, 0, 0, api.ErrOver}, {2, 1, 1<<63 - 1, 0, 0, 0, api.ErrOver}, {2, 1, 10079999, 59, 0, week - 1, api.OK}, {2, 1, 10080000, 0, 0, 0, api.ErrOver},
	} {
		if ms, e := spans.Time(x.words, x.perbit, x.f, x.b, x.p); ms != x.want || e != x.e {
			t.Errorf("%d: Time = %d, %v, want %d, %v", i, ms, e, x.want, x.e)
		}
	}
	for i, x := range [][3]int{{1, 20, 0}, {11, 1, 0}, {2, 0, 0}, {2, 21, 0}, {2, 1, -1}, {2, 1, week}} {
		if f, b, p, e := spans.Place(x[0], x[1], x[2]); f|b|p != 0 || e != api.ErrRange {
			t.Errorf("%d: Place = %d, %d, %d, %v", i, f, b, p, e)
		}
	}
}

// length returns the pseudorange by the definition, before rounding.
func length(l, rx int, c api.Channel) *big.Rat {
	x := big.NewRat(int64(c.At), int64(l))
	x.Add(x, big.NewRat(int64(rx-c.Ms), 1))
	return x.Mul(x, big.NewRat(299792458, 1))
}

// rounded returns x, rounded halves away from 0.
func rounded(x *big.Rat) *big.Int {
	q := new(big.Int).Abs(x.Num())
	q.Lsh(q, 1).Add(q, x.Denom()).Quo(q, new(big.Int).Lsh(x.Denom(), 1))
	if x.Sign() < 0 {
		q.Neg(q)
	}
	return q
}

// P29.2, P29.6: pseudoranges.
func TestLength(t *testing.T) {
	r := rand.New(rand.NewPCG(29, 2))
	over := 0
	for range 5000 {
		l := 1 + r.IntN(8192)
		c := api.Channel{Prn: 1 + r.IntN(2048), At: r.IntN(1<<40+1) >> r.IntN(40), Ms: r.IntN(week)}
		rx := c.Ms - c.At/l + r.IntN(90000) - 45000
		if rx < -week || rx > 2*week {
			continue
		}
		exact := rounded(length(l, rx, c))
		got, e := spans.Length(l, rx, c)
		if new(big.Int).Abs(exact).Cmp(big.NewInt(10000000000000)) > 0 {
			over++
			if got != 0 || e != api.ErrOver {
				t.Fatalf("Length(%d, %d, %v) = %d, %v, want %v", l, rx, c, got, e, exact)
			}
			continue
		}
		if int64(got) != exact.Int64() || e != api.OK {
			t.Fatalf("Length(%d, %d, %v) = %d, %v, want %v", l, rx, c, got, e, exact)
		}
		later := api.Channel{Prn: c.Prn, At: c.At + l, Ms: c.Ms + 1}
		if x, e := spans.Length(l, rx, later); e == api.OK && x != got {
			t.Fatalf("a later period has the length %d, not %d", x, got)
		}
		if x, e := spans.Length(l, rx+1, c); e == api.OK && x-got != api.Light && x-got != api.Light+1 {
			t.Fatalf("a millisecond more adds %d", x-got)
		}
	}
	if over == 0 {
		t.Error("no length is too great")
	}
	good := api.Channel{Prn: 5, At: 500}
	for i, x := range []struct {
		l, rx int
		c     api.Channel
		want  int
		e     api.Errno
	}{
		{1000, 70, api.Channel{Prn: 5}, 20985472060, api.OK}, {1000, 0, good, 149896229, api.OK}, {3, 0, api.Channel{Prn: 5, At: 1, Ms: 1}, -199861639, api.OK},
		{0, 0, good, 0, api.ErrRange}, {8193, 0, good, 0, api.ErrRange}, {1, -week - 1, good, 0, api.ErrRange}, {1, 2*week + 1, good, 0, api.ErrRange}, {1, 0, api.Channel{}, 0, api.ErrRange}, {1, 0, api.Channel{Prn: 2049}, 0, api.ErrRange},
		{1, 0, api.Channel{Prn: 1, At: -1}, 0, api.ErrRange}, {1, 0, api.Channel{Prn: 1, At: 1<<40 + 1}, 0, api.ErrRange}, {1, 0, api.Channel{Prn: 1, Ms: -1}, 0, api.ErrRange}, {1, 0, api.Channel{Prn: 1, Ms: week}, 0, api.ErrRange},
		{1, 2 * week, api.Channel{Prn: 2048, At: 1 << 40}, 0, api.ErrOver}, {1, -week, api.Channel{Prn: 1, Ms: week - 1}, 0, api.ErrOver}, {1000, 40000, api.Channel{Prn: 1}, 0, api.ErrOver}, {8192, 33356, api.Channel{Prn: 1}, 33356 * 299792458, api.OK}, {8192, 33357, api.Channel{Prn: 1}, 0, api.ErrOver},
	} {
		if n, e := spans.Length(x.l, x.rx, x.c); n != x.want || e != x.e {
			t.Errorf("%d: Length = %d, %v, want %d, %v", i, n, e, x.want, x.e)
		}
	}
}

// P29.2: error bounds.
func TestBound(t *testing.T) {
	for l := 1; l <= 8192; l += 7 {
		for over := 1; over <= 8; over++ {
			n, e := spans.Bound(l, over)
			if e != api.OK || (n-1)*l < over*299792458 || (n-2)*l >= over*299792458 {
				t.Fatalf("Bound(%d, %d) = %d, %v", l, over, n, e)
			}
		}
	}
	for _, x := range [][2]int{{0, 1}, {-1, 1}, {8193, 1}, {1, 0}, {1, 9}, {1, -1 << 63}} {
		if n, e := spans.Bound(x[0], x[1]); n != 0 || e != api.ErrRange {
			t.Errorf("Bound(%v) = %d, %v", x, n, e)
		}
	}
}

func random(r *rand.Rand) []api.Channel {
	var l []api.Channel
	for _, prn := range r.Perm(30)[:1+r.IntN(16)] {
		l = append(l, api.Channel{Prn: prn + 1, At: r.IntN(50000), Ms: 5000 + r.IntN(3000)})
	}
	return l
}

// P29.3: the first clock.
func TestStart(t *testing.T) {
	r := rand.New(rand.NewPCG(29, 3))
	for range 300 {
		l, c := 1+r.IntN(8192), random(r)
		rx, e := spans.Start(l, c)
		if e != api.OK {
			t.Fatal(e)
		}
		least := length(l, rx, c[0])
		for _, x := range c {
			if y := length(l, rx, x); y.Cmp(least) < 0 {
				least = y
			}
		}
		if least.Sign() < 0 || least.Cmp(big.NewRat(299792458, 1)) >= 0 {
			t.Fatalf("Start(%d, %v) = %d: the least length is %v", l, c, rx, least)
		}
	}
	many := make([]api.Channel, 17)
	for i := range many {
		many[i].Prn = i + 1
	}
	good := api.Channel{Prn: 1}
	for i, x := range []struct {
		l    int
		c    []api.Channel
		want int
		e    api.Errno
	}{
		{0, nil, 0, api.ErrRange}, {8193, []api.Channel{{}}, 0, api.ErrRange}, {1, nil, 0, api.ErrLong}, {1, many, 0, api.ErrLong}, {1, append(slices.Clone(many), api.Channel{}), 0, api.ErrRange}, {1, []api.Channel{good, good, {Prn: 1, Ms: -1}}, 0, api.ErrRange},
		{1, []api.Channel{good, good}, 0, api.ErrDouble}, {1000, []api.Channel{{Prn: 1, Ms: 60}, {Prn: 2, At: 2500, Ms: 67}}, 65, api.OK}, {1, []api.Channel{{Prn: 1, At: 1 << 40}}, -week, api.OK}, {1, many[:16], 0, api.OK},
	} {
		if rx, e := spans.Start(x.l, x.c); rx != x.want || e != x.e {
			t.Errorf("%d: Start = %d, %v, want %d, %v", i, rx, e, x.want, x.e)
		}
	}
}

// P29.4: all observations.
func TestAll(t *testing.T) {
	r := rand.New(rand.NewPCG(29, 4))
	for range 200 {
		l, over, c := 1+r.IntN(8192), 1+r.IntN(8), random(r)
		for i := range c {
			c[i].At %= 10 * l
		}
		rx, _ := spans.Start(l, c)
		before := slices.Clone(c)
		got, e := spans.All(l, over, rx, c)
		if e != api.OK || len(got) != len(c) || !slices.Equal(c, before) {
			t.Fatalf("All: %v", e)
		}
		bound, _ := spans.Bound(l, over)
		for i, s := range got {
			k := slices.IndexFunc(c, func(x api.Channel) bool { return x.Prn == s.Prn })
			n, _ := spans.Length(l, rx, c[k])
			if s.Range != n || s.Error != bound || i > 0 && got[i-1].Prn >= s.Prn {
				t.Fatalf("All = %v", got)
			}
		}
	}
	good, far := api.Channel{Prn: 1}, api.Channel{Prn: 1, Ms: 50000}
	for i, x := range []struct {
		l, over, rx int
		c           []api.Channel
		e           api.Errno
	}{
		{0, 1, 0, make([]api.Channel, 17), api.ErrRange}, {1, 9, 0, make([]api.Channel, 17), api.ErrRange}, {1, 1, 1 << 40, make([]api.Channel, 17), api.ErrLong}, {1, 1, 0, make([]api.Channel, 16), api.ErrRange}, {1, 1, 1 << 40, []api.Channel{good}, api.ErrRange},
		{1, 1, 0, []api.Channel{good, good, far}, api.ErrOver}, {1, 1, 0, []api.Channel{good, far, {}}, api.ErrOver}, {1, 1, 0, []api.Channel{good, good}, api.ErrDouble}, {1, 1, 0, nil, api.OK},
	} {
		if l, e := spans.All(x.l, x.over, x.rx, x.c); l != nil || e != x.e {
			t.Errorf("%d: All = %v, %v, want %v", i, l, e, x.e)
		}
	}
}

// P29.7: a pseudorange is within its bound.
func TestWithin(t *testing.T) {
	r := rand.New(rand.NewPCG(29, 5))
	for range 500 {
		l, over := 31+r.IntN(8000), 1+r.IntN(8)
		// The clock is right: the sample n is received at the millisecond n/l; a period is sent at 0 from the distance d.
		d := r.IntN(6000000000)
		exact := big.NewRat(int64(d), 299792458)
		exact.Mul(exact, big.NewRat(int64(l), 1))
		at := int(new(big.Int).Div(exact.Num(), exact.Denom()).Int64()) + r.IntN(2*over-1) - (over - 1)
		if at < 0 {
			continue
		}
		got, e := spans.Length(l, 0, api.Channel{Prn: 1, At: at})
		bound, _ := spans.Bound(l, over)
		if x := got - d; e != api.OK || max(x, -x) > bound {
			t.Fatalf("the length %d of %d is off by more than %d", got, d, bound)
		}
	}
}
