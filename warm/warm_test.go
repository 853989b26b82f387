package warm_test

import (
	"math/big"
	"math/rand/v2"
	"reflect"
	"slices"
	"testing"

	"skyfix/almanac"
	"skyfix/api"
	"skyfix/warm"
)

const light = 299792458

// example is the page of the chapter's examples.
func example() api.Page {
	return api.Page{Prn: 3, T0: 1000, X: [3]int{400000}}
}

// random returns a page of a satellite around the earth.
func random(r *rand.Rand) api.Page {
	p := api.Page{Prn: 1 + r.IntN(63), T0: r.IntN(604800), Err: r.IntN(5000), Grow: r.IntN(20000)}
	for _, c := range [3]*[3]int{&p.X, &p.Y, &p.Z} {
		*c = [3]int{r.IntN(800001) - 400000, r.IntN(8001) - 4000, r.IntN(1025) - 512}
	}
	return p
}

// question is what is asked of a page.
type question struct {
	u                               api.Point
	radius, t, late, clock, samples int
}

// ask returns a question near the time of a page.
func ask(r *rand.Rand, p api.Page) question {
	c := func() int { return r.IntN(13000001) - 6500000 }
	late := r.IntN(1 << r.IntN(9))
	d := r.IntN(28801-2*late) - 14400 + late
	return question{api.Point{X: c(), Y: c(), Z: c()}, r.IntN(1 << r.IntN(23)), (p.T0 + d + 604800) % 604800, late, r.IntN(1 << r.IntN(20)), 1 + r.IntN(8192)}
}

func (q question) predict(p api.Page) (api.Hint, api.Errno) {
	return warm.Predict(p, q.u, q.radius, q.t, q.late, q.clock, q.samples)
}

func abs(x int) int { return max(x, -x) }

func ceil(n, d int) int {
	q := n / d
	if q*d < n {
		q++
	}
	return q
}

func floor(n, d int) int {
	q := n / d
	if q*d > n {
		q--
	}
	return q
}

// hint returns the hint by the definition.
func hint(p api.Page, q question) api.Hint {
	d := q.t - p.T0
	for d > 302399 {
		d -= 604800
	}
	for d < -302400 {
		d += 604800
	}
	a := abs(d) + q.late
	s, _ := almanac.At(p, q.t)
	u := [3]int{q.u.X, q.u.Y, q.u.Z}
	w := 0
	for _, c := range [3][3]int{p.X, p.Y, p.Z} {
		v := ceil(1024*abs(c[1])+2*abs(c[2])*a, 1024)
		w = max(w, v*q.late+1)
	}
	w += ceil(3600*p.Err+p.Grow*a, 3600)
	f, ss, uu, square := 0, 0, 0, 0
	for i := range 3 {
		f += (s[i] - u[i]) * u[i]
		ss, uu = ss+abs(s[i]), uu+abs(u[i])
		square += (s[i] - u[i]) * (s[i] - u[i])
	}
	b := w*uu + q.radius*(ss+2*uu) + 2*w*q.radius + q.radius*q.radius
	h := api.Hint{Prn: p.Prn}
	if f > b {
		h.Up = 1
	} else if f < -b {
		h.Up = -1
	}
	root := int(new(big.Int).Sqrt(big.NewInt(int64(square))).Int64())
	h.Near, h.Far = max(0, root-2*w-q.radius), root+1+2*w+q.radius
	low, high := floor((h.Near-q.clock)*1000*q.samples, light), floor((h.Far+q.clock)*1000*q.samples, light)
	h.Many = min(high-low+1, q.samples)
	h.Lag = ((low % q.samples) + q.samples) % q.samples
	return h
}

// P40.1: hints by the definition.
func TestPredict(t *testing.T) {
	r := rand.New(rand.NewPCG(40, 1))
	ups := map[int]int{}
	for range 2000 {
		p := random(r)
		q := ask(r, p)
		h, e := q.predict(p)
		if want := hint(p, q); h != want || e != api.OK {
			t.Fatalf("Predict(%v, %v) = %v, %v, want %v", p, q, h, e, want)
		}
		ups[h.Up]++
	}
	if ups[-1] == 0 || ups[0] == 0 || ups[1] == 0 {
		t.Errorf("the satellites are up, open or down: %v", ups)
	}
	extreme := api.Page{Prn: 1, Err: 65535, Grow: 1<<20 - 1, X: [3]int{524287, 8191, 2047}, Y: [3]int{-524288, -8192, -2048}, Z: [3]int{-524288, -8192, 2047}}
	q := question{api.Point{X: -100000000, Y: 100000000, Z: 100000000}, 10000000, 13800, 600, 1000000000, 8192}
	if h, e := q.predict(extreme); h != hint(extreme, q) || e != api.OK {
		t.Errorf("Predict of the greatest numbers = %v, %v", h, e)
	}
}

// P40.4, P40.5: what is predicted holds.
func TestHolds(t *testing.T) {
	r := rand.New(rand.NewPCG(40, 2))
	for range 3000 {
		p := random(r)
		q := ask(r, p)
		h, e := q.predict(p)
		if e != api.OK {
			t.Fatal(e)
		}
		now := (q.t + r.IntN(2*q.late+1) - q.late + 604800) % 604800
		at, _ := almanac.At(p, now)
		bound, _ := almanac.Error(p, now)
		for i := range at {
			at[i] += r.IntN(2*bound+1) - bound
		}
		// A receiver within the radius: by a third of it along each axis.
		c := func(x int) int { return x + (r.IntN(2*q.radius+1)-q.radius)/2 }
		u := [3]int{c(q.u.X), c(q.u.Y), c(q.u.Z)}
		off := [3]int{u[0] - q.u.X, u[1] - q.u.Y, u[2] - q.u.Z}
		if off[0]*off[0]+off[1]*off[1]+off[2]*off[2] > q.radius*q.radius {
			continue
		}
		f, square := 0, 0
		for i := range 3 {
			f += (at[i] - u[i]) * u[i]
			square += (at[i] - u[i]) * (at[i] - u[i])
		}
		if h.Up == api.HintUp && f <= 0 || h.Up == api.HintDown && f >= 0 {
			t.Fatalf("%v, but the product is %d", h, f)
		}
		if square < h.Near*h.Near || square > h.Far*h.Far {
			t.Fatalf("%v, but the square of the distance is %d", h, square)
		}
		distance := int(new(big.Int).Sqrt(new(big.Int).Mul(big.NewInt(int64(square)), big.NewInt(1000000))).Int64())
		clock := 1000 * (r.IntN(2*q.clock+1) - q.clock)
		lag := floor((distance+clock)*q.samples, light)
		lag = ((lag % q.samples) + q.samples) % q.samples
		if ok, e := warm.Fits(h, lag, q.samples); !ok || e != api.OK {
			t.Fatalf("%v: the lag %d does not fit: %v", h, lag, e)
		}
	}
}

// P40.6: with less doubt nothing that was sure changes.
func TestLessDoubt(t *testing.T) {
	r := rand.New(rand.NewPCG(40, 3))
	for range 500 {
		p := random(r)
		q := ask(r, p)
		h, _ := q.predict(p)
		less := q
		less.radius, less.late, less.clock = r.IntN(q.radius+1), r.IntN(q.late+1), r.IntN(q.clock+1)
		x, e := less.predict(p)
		if e != api.OK || h.Up != api.HintOpen && x.Up != h.Up || x.Near < h.Near || x.Far > h.Far {
			t.Fatalf("%v becomes %v, %v", h, x, e)
		}
	}
}

// The examples of the chapter.
func TestExamples(t *testing.T) {
	p := example()
	u := api.Point{X: 6400000}
	for i, x := range []struct {
		q question
		h api.Hint
	}{
		{question{u, 0, 1000, 0, 0, 1000}, api.Hint{Prn: 3, Up: 1, Near: 19199998, Far: 19200003, Lag: 44, Many: 1}},
		{question{u, 1000000, 1000, 0, 300000, 1000}, api.Hint{Prn: 3, Up: 1, Near: 18199998, Far: 20200003, Lag: 707, Many: 1000}},
	} {
		if h, e := x.q.predict(p); h != x.h || e != api.OK {
			t.Errorf("%d: Predict = %v, %v, want %v", i, h, e, x.h)
		}
	}
	for want, u := range map[api.Point]api.Point{{X: -1}: {X: -6400000}, {Y: -1}: {Y: 6400000}, {}: {}} {
		if h, e := warm.Predict(p, u, 0, 1000, 0, 0, 1000); h.Up != want.X+want.Y || e != api.OK {
			t.Errorf("Predict from %v = %v, %v", u, h, e)
		}
	}
}

// P40.1, P40.2: the errors, in their order, and all hints.
func TestErrors(t *testing.T) {
	good := question{api.Point{X: 100000000, Y: -100000000}, 10000000, 1000, 600, 1000000000, 8192}
	bad := example()
	bad.Prn = 0
	for i, x := range []struct {
		change func(q *question)
		e      api.Errno
	}{
		{func(q *question) {}, api.OK}, {func(q *question) { q.u.X++ }, api.ErrRange}, {func(q *question) { q.u.Y-- }, api.ErrRange}, {func(q *question) { q.u.Z = -1 << 63 }, api.ErrRange}, {func(q *question) { q.radius++ }, api.ErrRange}, {func(q *question) { q.radius = -1 }, api.ErrRange},
		{func(q *question) { q.t = -1 }, api.ErrRange}, {func(q *question) { q.t = 604800 }, api.ErrRange}, {func(q *question) { q.late = 601 }, api.ErrRange}, {func(q *question) { q.late = -1 }, api.ErrRange}, {func(q *question) { q.clock++ }, api.ErrRange}, {func(q *question) { q.clock = -1 }, api.ErrRange},
		{func(q *question) { q.samples++ }, api.ErrRange}, {func(q *question) { q.samples = 0 }, api.ErrRange}, {func(q *question) { q.t, q.late = 1000+14400, 0 }, api.OK}, {func(q *question) { q.t, q.late = 1000+14400, 1 }, api.ErrOld}, {func(q *question) { q.t, q.late = 15401, 0 }, api.ErrOld}, {func(q *question) { q.t, q.samples = 300000, 0 }, api.ErrRange},
		{func(q *question) { q.t, q.late = 604800-13400, 0 }, api.OK}, {func(q *question) { q.t, q.late = 604800-13401, 0 }, api.ErrOld},
	} {
		q := good
		x.change(&q)
		h, e := q.predict(example())
		if e != x.e || (h == api.Hint{}) != (e != api.OK) {
			t.Errorf("%d: Predict = %v, %v, want %v", i, h, e, x.e)
		}
		if h, e := q.predict(bad); h != (api.Hint{}) || e != api.ErrRange {
			t.Errorf("%d: Predict of no page = %v, %v", i, h, e)
		}
		want := x.e
		if want == api.ErrOld {
			want = api.OK
		}
		if l, e := warm.All(nil, q.u, q.radius, q.t, q.late, q.clock, q.samples); l != nil || e != want {
			t.Errorf("%d: All = %v, %v, want %v", i, l, e, want)
		}
		old := example()
		old.Prn, old.T0 = 5, 300000
		l, e := warm.All([]api.Page{example(), old}, q.u, q.radius, q.t, q.late, q.clock, q.samples)
		if e != want || e == api.OK && (len(l) == 1) != (x.e == api.OK) && q.t != 300000 || len(l) > 0 && l[0] != h {
			t.Errorf("%d: All = %v, %v, want %v", i, l, e, want)
		}
	}
	for i, x := range []struct {
		l []api.Page
		e api.Errno
	}{{make([]api.Page, 64), api.ErrLong}, {[]api.Page{example(), bad}, api.ErrRange}, {[]api.Page{example(), example()}, api.ErrOrder}} {
		if l, e := warm.All(x.l, good.u, -1, 0, 0, 0, 1); l != nil || e != x.e {
			t.Errorf("%d: All = %v, %v, want %v", i, l, e, x.e)
		}
	}
}

// P40.3: the order of hints.
func TestOrder(t *testing.T) {
	r := rand.New(rand.NewPCG(40, 4))
	for range 300 {
		l := make([]api.Hint, r.IntN(30))
		for i := range l {
			l[i] = api.Hint{Prn: r.IntN(5), Up: r.IntN(5) - 2, Many: r.IntN(3) - 1, Lag: i}
		}
		before := slices.Clone(l)
		var want []int
		for _, up := range []bool{true, false} {
			for many := -1; many <= 1; many++ {
				for prn := range 5 {
					for _, h := range l {
						if h.Up != -1 && (h.Up == 1) == up && h.Many == many && h.Prn == prn {
							want = append(want, prn)
						}
					}
				}
			}
		}
		if got := warm.Order(l); !slices.Equal(got, want) || !reflect.DeepEqual(l, before) {
			t.Fatalf("Order(%v) = %v, want %v", l, got, want)
		}
	}
	l := []api.Hint{{Prn: 5, Many: 10}, {Prn: 3, Up: 1, Many: 1000}, {Prn: 4, Up: -1}, {Prn: 2, Many: 9}}
	if got := warm.Order(l); !slices.Equal(got, []int{3, 2, 5}) {
		t.Errorf("Order = %v", got)
	}
}

// P40.3: lags.
func TestFits(t *testing.T) {
	for samples := 1; samples <= 6; samples++ {
		for lag := -1; lag <= samples; lag++ {
			for many := 0; many <= samples+1; many++ {
				for x := -1; x <= samples; x++ {
					ok, e := warm.Fits(api.Hint{Lag: lag, Many: many}, x, samples)
					if lag < 0 || lag == samples || many < 1 || many > samples || x < 0 || x == samples {
						if ok || e != api.ErrRange {
							t.Fatalf("Fits(%d, %d; %d, %d) = %v, %v", lag, many, x, samples, ok, e)
						}
						continue
					}
					want := false
					for k := range many {
						want = want || (lag+k)%samples == x
					}
					if ok != want || e != api.OK {
						t.Fatalf("Fits(%d, %d; %d, %d) = %v, %v", lag, many, x, samples, ok, e)
					}
				}
			}
		}
	}
	for _, samples := range []int{0, -1, 8193, 1 << 62} {
		if ok, e := warm.Fits(api.Hint{Many: 1}, 0, samples); ok || e != api.ErrRange {
			t.Errorf("Fits with %d samples = %v, %v", samples, ok, e)
		}
	}
}
