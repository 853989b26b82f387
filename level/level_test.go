package level_test

import (
	"math/big"
	"math/rand/v2"
	"slices"
	"testing"

	"skyfix/api"
	"skyfix/distance"
	"skyfix/level"
	"skyfix/rat"
	"skyfix/solve"
)

const (
	far  = 20000000000
	near = 100000000000
	most = 10000000000000
)

// example are the sights of layer 33's examples.
func example() []api.Sight {
	l := []api.Sight{{Prn: 1, Sat: api.Point{X: far}}, {Prn: 2, Sat: api.Point{Y: far}}, {Prn: 3, Sat: api.Point{Z: far}}, {Prn: 4, Sat: api.Point{X: -far}}}
	for i := range l {
		l[i].Range, l[i].Error = far+500, 1000
	}
	return l
}

// random returns right sights of satellites around the earth, and the truth.
func random(r *rand.Rand, many int) (l []api.Sight, at api.Point, bias int) {
	at = api.Point{X: 6371000000, Y: r.IntN(2000000000) - 1000000000, Z: r.IntN(2000000000) - 1000000000}
	bias = r.IntN(200000000) - 100000000
	for _, prn := range r.Perm(40)[:many] {
		c := func() int { return r.IntN(40000000000) - 20000000000 }
		s := api.Sight{Prn: prn + 1, Sat: api.Point{X: 15000000000 + r.IntN(10000000000), Y: c(), Z: c()}, Error: 1 + r.IntN(20000)}
		d, _ := distance.Range(at, s.Sat)
		// The distance is less than the range and 1.
		s.Range = d + bias + []int{s.Error, 1 - s.Error, r.IntN(s.Error)}[r.IntN(3)]
		l = append(l, s)
	}
	return l, at, bias
}

// moved returns a point whose coordinates are at most by away.
func moved(r *rand.Rand, p api.Point, by int) api.Point {
	c := func(x int) int { return x + r.IntN(2*by+1) - by }
	return api.Point{X: c(p.X), Y: c(p.Y), Z: c(p.Z)}
}

func value(a api.Rat) *big.Rat {
	text, _ := rat.Text(a)
	x, _ := new(big.Rat).SetString(text)
	return x
}

func ceil(x *big.Rat) int {
	q := new(big.Int).Neg(new(big.Int).Div(new(big.Int).Neg(x.Num()), x.Denom()))
	return int(q.Int64())
}

// P34.1, P34.4, P34.5: budgets and levels by their definitions, with greater bounds, and with another clock.
func TestLevel(t *testing.T) {
	r := rand.New(rand.NewPCG(34, 1))
	for range 40 {
		l, at, bias := random(r, 4+r.IntN(13))
		radius := r.IntN(1 << r.IntN(30))
		x, prior := moved(r, at, 1000000), moved(r, at, 1000000)
		apart, _ := distance.Range(prior, x)
		reach := radius + apart + 1
		budgets, e := level.Budget(l, x, prior, radius)
		if e != api.OK || len(budgets) != len(l) {
			t.Fatal(e)
		}
		for i, s := range l {
			length, _ := distance.Range(x, s.Sat)
			curve, _ := distance.Curve(length, reach)
			slack, _ := distance.Slack(reach)
			if want := s.Error + curve + slack + 1; budgets[i] != want {
				t.Fatalf("Budget = %v, want %d", budgets, want)
			}
		}
		f, _ := solve.Fit(l, x, bias)
		got, e := level.Level(l, x, bias, prior, radius)
		if e != api.OK {
			t.Fatal(e)
		}
		for k := range got {
			sum := new(big.Rat)
			for i, b := range budgets {
				part := new(big.Rat).Abs(value(f.Shape[k][i]))
				sum.Add(sum, part.Mul(part, new(big.Rat).SetInt64(int64(b))))
			}
			sum.Mul(sum, big.NewRat(1<<30, 1)).Add(sum, new(big.Rat).Abs(value(f.X[k])))
			if got[k] != ceil(sum) {
				t.Fatalf("Level = %v, want %v", got, sum)
			}
		}
		more := radius + 1000
		if other, _ := level.Level(l, x, bias, prior, more); min(other[0]-got[0], other[1]-got[1], other[2]-got[2], other[3]-got[3]) < 0 {
			t.Fatalf("a greater radius lessens %v to %v", got, other)
		}
		worse := slices.Clone(l)
		for i, s := range worse {
			// The weight depends on the thousands of the error.
			worse[i].Error += r.IntN(1000 - s.Error%1000)
		}
		if other, _ := level.Level(worse, x, bias, prior, radius); min(other[0]-got[0], other[1]-got[1], other[2]-got[2], other[3]-got[3]) < 0 {
			t.Fatalf("greater errors lessen %v to %v", got, other)
		}
		for i := range l {
			l[i].Range += 54321
		}
		if other, _ := level.Level(l, x, bias+54321, prior, radius); other != got {
			t.Fatalf("a greater clock changes %v to %v", got, other)
		}
	}
}

// P34.3: the level covers the truth.
func TestCovered(t *testing.T) {
	r := rand.New(rand.NewPCG(34, 2))
	for range 60 {
		l, at, bias := random(r, 4+r.IntN(9))
		by := 1 << r.IntN(30)
		prior := moved(r, at, by)
		d, _ := distance.Range(prior, at)
		x, b := moved(r, at, 1<<r.IntN(30)), bias+r.IntN(1000000)-500000
		got, e := level.Level(l, x, b, prior, d+1)
		if e == api.ErrState {
			continue
		}
		if e != api.OK || !level.Covers(got, x, b, at, bias) {
			t.Fatalf("the level %v at %v, %d does not cover %v, %d: %v", got, x, b, at, bias, e)
		}
	}
}

// P34.2: Covers, for any numbers.
func TestCovers(t *testing.T) {
	const top, bottom = 1<<63 - 1, -1 << 63
	numbers := []int{0, 1, -1, 5, top, bottom, top - 1, bottom + 1}
	for _, a := range numbers {
		for _, b := range numbers {
			for _, n := range numbers {
				apart := new(big.Int).Sub(big.NewInt(int64(a)), big.NewInt(int64(b)))
				want := apart.CmpAbs(big.NewInt(int64(n))) <= 0 && n >= 0
				for k := range 4 {
					var level4 [4]int
					var x, y [4]int
					level4[k], x[k], y[k] = n, a, b
					p, q := api.Point{X: x[0], Y: x[1], Z: x[2]}, api.Point{X: y[0], Y: y[1], Z: y[2]}
					if got := level.Covers(level4, p, x[3], q, y[3]); got != want {
						t.Fatalf("Covers(%v, %v, %v) = %v", level4, x, y, got)
					}
				}
			}
		}
	}
	l := [4]int{1004, 2008, 2008, 1004}
	if !level.Covers(l, api.Point{}, 500, api.Point{X: 1004, Y: -2008}, 1504) || level.Covers(l, api.Point{}, 500, api.Point{X: 1005}, 500) {
		t.Error("the examples are wrong")
	}
}

// The examples of the chapter.
func TestExamples(t *testing.T) {
	l := example()
	for i, x := range []struct {
		bias, radius int
		budget       int
		level        [4]int
	}{{500, 0, 1004, [4]int{1004, 2008, 2008, 1004}}, {500, 1000000, 1029, [4]int{1029, 2058, 2058, 1029}}, {400, 0, 1004, [4]int{1004, 2008, 2008, 1104}}} {
		b, e := level.Budget(l, api.Point{}, api.Point{}, x.radius)
		if e != api.OK || b[0] != x.budget || b[3] != x.budget {
			t.Errorf("%d: Budget = %v, %v", i, b, e)
		}
		if got, e := level.Level(l, api.Point{}, x.bias, api.Point{}, x.radius); got != x.level || e != api.OK {
			t.Errorf("%d: Level = %v, %v", i, got, e)
		}
	}
}

// The errors, in their order.
func TestErrors(t *testing.T) {
	zero, flat := example(), example()
	zero[0].Sat = api.Point{X: 7}
	flat[3].Sat.X = far
	out := api.Point{Y: near + 1}
	for i, x := range []struct {
		l            []api.Sight
		x, prior     api.Point
		bias, radius int
		e, budget    api.Errno
	}{
		{zero[:3], out, out, most + 1, -1, api.ErrShort, api.ErrShort}, {zero, out, api.Point{}, 0, 0, api.ErrRange, api.ErrRange}, {zero, api.Point{X: 7}, out, 0, 0, api.ErrRange, api.ErrRange}, {zero, api.Point{X: 7}, api.Point{}, 0, -1, api.ErrRange, api.ErrRange},
		{zero, api.Point{X: 7}, api.Point{}, 0, near + 1, api.ErrRange, api.ErrRange}, {zero, api.Point{X: 7}, api.Point{}, most + 1, near, api.ErrRange, api.ErrZero}, {zero, api.Point{X: 7}, api.Point{}, -most - 1, 0, api.ErrRange, api.ErrZero}, {zero, api.Point{X: 7}, api.Point{}, -1 << 63, 0, api.ErrRange, api.ErrZero},
		{zero, api.Point{X: 7}, api.Point{}, 0, near, api.ErrZero, api.ErrZero}, {flat, api.Point{}, api.Point{}, 0, far, api.ErrState, api.ErrState}, {flat, api.Point{}, api.Point{}, 0, far - 1, api.ErrState, api.ErrState}, {flat, api.Point{}, api.Point{}, 0, far - 2, api.ErrState, api.ErrState},
		{flat, api.Point{}, api.Point{}, 0, 0, api.ErrSingular, api.OK}, {example(), api.Point{}, api.Point{}, 0, far - 30000000, api.OK, api.OK}, {example(), api.Point{}, api.Point{X: -near, Y: -near, Z: -near}, 0, near, api.ErrState, api.ErrState},
	} {
		b, e1 := level.Budget(x.l, x.x, x.prior, x.radius)
		got, e2 := level.Level(x.l, x.x, x.bias, x.prior, x.radius)
		if e1 != x.budget || e2 != x.e || (b == nil) != (e1 != api.OK) || (got == [4]int{}) != (e2 != api.OK) {
			t.Errorf("%d: %v, %v, want %v, %v", i, e1, e2, x.budget, x.e)
		}
	}
	// Satellites that nearly lie in a plane have levels that are too great.
	thin := example()
	thin[0].Sat, thin[1].Sat, thin[2].Sat, thin[3].Sat = api.Point{X: far, Y: 1, Z: 3}, api.Point{X: far, Y: 40, Z: 90}, api.Point{X: far, Y: 55, Z: 4000}, api.Point{X: far, Y: -99, Z: 2}
	for i := range thin {
		thin[i].Error = 1000000000
	}
	if got, e := level.Level(thin, api.Point{}, 0, api.Point{}, far-30000000); got != [4]int{} || e != api.ErrOver && e != api.ErrSingular {
		t.Errorf("Level = %v, %v", got, e)
	}
}
