package solve_test

import (
	"math/big"
	"math/rand/v2"
	"reflect"
	"slices"
	"testing"

	"skyfix/api"
	"skyfix/distance"
	"skyfix/normal"
	"skyfix/rat"
	"skyfix/solve"
)

const (
	unit = 1 << 30
	far  = 20000000000
	most = 10000000000000
)

// example are the sights of the chapter's examples.
func example() []api.Sight {
	l := []api.Sight{{Prn: 1, Sat: api.Point{X: far}}, {Prn: 2, Sat: api.Point{Y: far}}, {Prn: 3, Sat: api.Point{Z: far}}, {Prn: 4, Sat: api.Point{X: -far}}}
	for i := range l {
		l[i].Range, l[i].Error = far+500, 1000
	}
	return l
}

// truth is a point and a bias.
type truth struct {
	at   api.Point
	bias int
}

// random returns sights of satellites around the earth, whose pseudoranges are at most noise off.
func random(r *rand.Rand, many, noise int) ([]api.Sight, truth) {
	x := truth{api.Point{X: 6371000000 - r.IntN(2000000), Y: r.IntN(2000000000) - 1000000000, Z: r.IntN(2000000000) - 1000000000}, r.IntN(200000000) - 100000000}
	var l []api.Sight
	for _, prn := range r.Perm(40)[:many] {
		c := func() int { return r.IntN(40000000000) - 20000000000 }
		s := api.Sight{Prn: prn + 1, Sat: api.Point{X: 15000000000 + r.IntN(10000000000), Y: c(), Z: c()}, Error: r.IntN(20000)}
		d, _ := distance.Range(x.at, s.Sat)
		s.Range = d + x.bias
		if noise > 0 {
			s.Range += r.IntN(2*noise+1) - noise
		}
		l = append(l, s)
	}
	return l, x
}

func value(a api.Rat) *big.Rat {
	text, _ := rat.Text(a)
	x, _ := new(big.Rat).SetString(text)
	return x
}

func whole(n int) *big.Rat { return new(big.Rat).SetInt64(int64(n)) }

// P33.2: designs and fits.
func TestDesign(t *testing.T) {
	r := rand.New(rand.NewPCG(33, 1))
	for range 60 {
		l, x := random(r, 4+r.IntN(13), 1000)
		l[0].Error, l[1].Error = []int{0, 999, 1000, 1000000000}[r.IntN(4)], 999999000
		at := api.Point{X: x.at.X + r.IntN(1000000), Y: x.at.Y, Z: x.at.Z - 5}
		rows, weights, y, e := solve.Design(l, at, 77)
		if e != api.OK || len(rows) != len(l) || len(weights) != len(l) || len(y) != len(l) {
			t.Fatal(e)
		}
		for i, s := range l {
			u, _ := distance.Direction(at, s.Sat)
			d, _ := distance.Range(at, s.Sat)
			if !slices.Equal(rows[i], []int{-u.X, -u.Y, -u.Z, unit}) || weights[i] != max(1, 1000000/(1+s.Error/1000)) {
				t.Fatalf("Design: %v, %d", rows[i], weights[i])
			}
			if want := new(big.Rat).Mul(whole(unit), whole(s.Range-d-77)); value(y[i]).Cmp(want) != 0 {
				t.Fatalf("Design: %v, want %v", y[i], want)
			}
		}
		f, e := solve.Fit(l, at, 77)
		want, e2 := normal.Solve(rows, weights, y)
		if !reflect.DeepEqual(f, want) || e != api.OK || e2 != api.OK {
			t.Fatalf("Fit: %v, %v", e, e2)
		}
	}
}

// rounded returns x, rounded halves away from 0.
func rounded(x *big.Rat) int {
	q := new(big.Int).Abs(x.Num())
	q.Lsh(q, 1).Add(q, x.Denom()).Quo(q, new(big.Int).Lsh(x.Denom(), 1))
	return int(q.Int64()) * x.Sign()
}

// iterated is the iteration by the definition; it has no errors.
func iterated(t *testing.T, l []api.Sight, x api.Point, bias int) api.Solved {
	t.Helper()
	s := api.Solved{At: x, Bias: bias}
	for s.Steps < 20 && !s.Closed {
		f, e := solve.Fit(l, s.At, s.Bias)
		if e != api.OK {
			t.Fatal(e)
		}
		var c [4]int
		for k := range c {
			c[k] = rounded(value(f.X[k]))
		}
		s.At = api.Point{X: s.At.X + c[0], Y: s.At.Y + c[1], Z: s.At.Z + c[2]}
		s.Bias += c[3]
		s.Steps++
		s.Closed = c == [4]int{}
	}
	return s
}

// P33.3, P33.4, P33.5, P33.7: solutions.
func TestSolve(t *testing.T) {
	r := rand.New(rand.NewPCG(33, 2))
	for range 25 {
		l, x := random(r, 5+r.IntN(8), 3000)
		start := api.Point{X: x.at.X + r.IntN(100000000), Y: x.at.Y - r.IntN(100000000), Z: x.at.Z}
		s, e := solve.Solve(l, start, 0)
		if want := iterated(t, l, start, 0); s != want || e != api.OK {
			t.Fatalf("Solve = %v, %v, want %v", s, e, want)
		}
		mixed := slices.Clone(l)
		r.Shuffle(len(mixed), func(i, k int) { mixed[i], mixed[k] = mixed[k], mixed[i] })
		if other, e := solve.Solve(mixed, start, 0); other != s || e != api.OK {
			t.Fatalf("the order changes %v to %v", s, other)
		}
		for i := range mixed {
			mixed[i].Range += 12345
		}
		later := s
		later.Bias += 12345
		if other, _ := solve.Solve(mixed, start, 12345); other != later {
			t.Fatalf("a greater clock changes %v to %v", s, other)
		}
		if s.Closed {
			f, _ := solve.Fit(l, s.At, s.Bias)
			for _, v := range f.X {
				if new(big.Rat).Abs(value(v)).Cmp(big.NewRat(1, 2)) > 0 {
					t.Fatalf("the correction of a closed solution is %v", v)
				}
			}
		}
	}
}

// P33.6, P33.7: moved sights, and exact ranges.
func TestMoved(t *testing.T) {
	r := rand.New(rand.NewPCG(33, 3))
	for range 25 {
		l, x := random(r, 5+r.IntN(8), 0)
		s, e := solve.Solve(l, x.at, x.bias)
		if s != (api.Solved{At: x.at, Bias: x.bias, Steps: 1, Closed: true}) || e != api.OK {
			t.Fatalf("Solve = %v, %v, want %v", s, e, x)
		}
		start := api.Point{X: x.at.X + 90000000, Y: x.at.Y, Z: x.at.Z}
		s, _ = solve.Solve(l, start, 0)
		for i := range l {
			l[i].Sat.X, l[i].Sat.Y, l[i].Sat.Z = l[i].Sat.X+1000003, l[i].Sat.Y-7, l[i].Sat.Z+99
		}
		start = api.Point{X: start.X + 1000003, Y: start.Y - 7, Z: start.Z + 99}
		s.At = api.Point{X: s.At.X + 1000003, Y: s.At.Y - 7, Z: s.At.Z + 99}
		if other, e := solve.Solve(l, start, 0); other != s || e != api.OK {
			t.Fatalf("moved sights lead to %v, want %v", other, s)
		}
	}
}

// The examples of the chapter.
func TestExamples(t *testing.T) {
	l := example()
	rows, weights, y, _ := solve.Design(l, api.Point{}, 500)
	if !slices.Equal(rows[0], []int{-unit, 0, 0, unit}) || weights[0] != 500000 || value(y[0]).Sign() != 0 {
		t.Errorf("Design = %v, %v, %v", rows[0], weights[0], y[0])
	}
	for bias, steps := range map[int]int{500: 1, 0: 2} {
		if s, e := solve.Solve(l, api.Point{}, bias); s != (api.Solved{Bias: 500, Steps: steps, Closed: true}) || e != api.OK {
			t.Errorf("Solve = %v, %v", s, e)
		}
	}
	d, e := solve.Dilutions(l, api.Point{})
	for k, want := range []*big.Rat{big.NewRat(1, 2), big.NewRat(3, 2), big.NewRat(3, 2), big.NewRat(1, 2)} {
		if e != api.OK || value(d[k]).Cmp(want) != 0 {
			t.Errorf("Dilutions = %v, %v", d, e)
		}
	}
	l[3].Sat.X = far
	if s, e := solve.Solve(l, api.Point{}, 0); s != (api.Solved{}) || e != api.ErrSingular {
		t.Errorf("Solve = %v, %v", s, e)
	}
	if d, e := solve.Dilutions(l, api.Point{}); d != nil || e != api.ErrSingular {
		t.Errorf("Dilutions = %v, %v", d, e)
	}
}

// P33.3: dilutions.
func TestDilutions(t *testing.T) {
	r := rand.New(rand.NewPCG(33, 4))
	for range 20 {
		l, x := random(r, 4+r.IntN(13), 1000)
		rows, weights, _, _ := solve.Design(l, x.at, 0)
		for i := range weights {
			weights[i] = 1
		}
		cov, _, _ := normal.Shape(rows, weights)
		d, e := solve.Dilutions(l, x.at)
		if e != api.OK || len(d) != 4 {
			t.Fatal(e)
		}
		for k := range d {
			if want := new(big.Rat).Mul(value(cov[k][k]), whole(1<<60)); value(d[k]).Cmp(want) != 0 {
				t.Fatalf("Dilutions = %v, want %v", d[k], want)
			}
		}
	}
}

// P33.1: sights that are none, and the other errors, in their order.
func TestErrors(t *testing.T) {
	const near = 100000000000
	at := api.Point{X: near + 1}
	change := func(f func(l []api.Sight)) []api.Sight {
		l := example()
		f(l)
		return l
	}
	many := make([]api.Sight, 17)
	for i, x := range []struct {
		l []api.Sight
		e api.Errno
	}{
		{nil, api.ErrShort}, {make([]api.Sight, 3), api.ErrShort}, {many, api.ErrLong}, {make([]api.Sight, 16), api.ErrRange},
		{change(func(l []api.Sight) { l[3].Prn = 0 }), api.ErrRange}, {change(func(l []api.Sight) { l[0].Prn = 2049 }), api.ErrRange}, {change(func(l []api.Sight) { l[1].Sat.Z = near + 1 }), api.ErrRange}, {change(func(l []api.Sight) { l[1].Sat.Y = -1 << 63 }), api.ErrRange},
		{change(func(l []api.Sight) { l[1].Range = most + 1 }), api.ErrRange}, {change(func(l []api.Sight) { l[1].Range = -most - 1 }), api.ErrRange}, {change(func(l []api.Sight) { l[1].Error = -1 }), api.ErrRange}, {change(func(l []api.Sight) { l[1].Error = 1000000001 }), api.ErrRange},
		{change(func(l []api.Sight) { l[1].Prn, l[2].Error = 1, -1 }), api.ErrDouble}, {change(func(l []api.Sight) { l[1].Error, l[2].Prn = -1, 1 }), api.ErrRange},
	} {
		e := solve.Check(x.l)
		rows, weights, y, e1 := solve.Design(x.l, at, 0)
		f, e2 := solve.Fit(x.l, at, 0)
		s, e3 := solve.Solve(x.l, at, 0)
		d, e4 := solve.Dilutions(x.l, at)
		if e != x.e || e1 != x.e || e2 != x.e || e3 != x.e || e4 != x.e {
			t.Errorf("%d: %v, %v, %v, %v, %v, want %v", i, e, e1, e2, e3, e4, x.e)
		}
		if rows != nil || weights != nil || y != nil || !reflect.DeepEqual(f, api.Fit{}) || s != (api.Solved{}) || d != nil {
			t.Errorf("%d: there is a result beside an error", i)
		}
	}
	zero := example()
	zero[0].Sat = api.Point{X: near}
	for i, x := range []struct {
		at   api.Point
		bias int
		e    api.Errno
	}{{api.Point{X: near + 1}, 0, api.ErrRange}, {api.Point{X: near}, most + 1, api.ErrRange}, {api.Point{X: near}, -most - 1, api.ErrRange}, {api.Point{X: near}, 0, api.ErrZero}, {api.Point{Y: far}, most, api.ErrZero}} {
		_, _, _, e1 := solve.Design(zero, x.at, x.bias)
		_, e2 := solve.Fit(zero, x.at, x.bias)
		s, e3 := solve.Solve(zero, x.at, x.bias)
		if e1 != x.e || e2 != x.e || e3 != x.e || s != (api.Solved{}) {
			t.Errorf("%d: %v, %v, %v, want %v", i, e1, e2, e3, x.e)
		}
		if _, e := solve.Dilutions(zero, x.at); x.bias == 0 && e != x.e {
			t.Errorf("%d: Dilutions: %v, want %v", i, e, x.e)
		}
	}
	// A correction leads out of the range of biases.
	over := example()
	for i := range over {
		over[i].Range = -most
	}
	if s, e := solve.Solve(over, api.Point{}, -5); s != (api.Solved{}) || e != api.ErrOver {
		t.Errorf("Solve = %v, %v", s, e)
	}
}
