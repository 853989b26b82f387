package motion_test

import (
	"math/big"
	"math/rand/v2"
	"reflect"
	"slices"
	"testing"

	"skyfix/api"
	"skyfix/distance"
	"skyfix/motion"
	"skyfix/normal"
	"skyfix/rat"
)

const (
	unit = 1 << 30
	near = 100000000000
	most = 1000000000
)

// example are the rates of the chapter's examples.
func example() []api.Rate {
	const far = 10000000000
	l := []api.Rate{{At: api.Point{X: far}, Rate: -7}, {At: api.Point{Y: far}, Rate: 5}, {At: api.Point{Z: far}}, {At: api.Point{X: -far}, Rate: 13}}
	for i := range l {
		l[i].Err, l[i].Weight = 1, 1
	}
	return l
}

func point(r *rand.Rand, size int) api.Point {
	c := func() int { return r.IntN(2*size+1) - size }
	return api.Point{X: c(), Y: c(), Z: c()}
}

// random returns a point and rates that are observed from there.
func random(r *rand.Rand) (api.Point, []api.Rate) {
	p := point(r, 7000000000)
	var l []api.Rate
	for range 4 + r.IntN(13) {
		l = append(l, api.Rate{At: point(r, 30000000000), Vel: point(r, 5000000), Rate: r.IntN(10000000) - 5000000, Err: r.IntN(1000), Weight: 1 + r.IntN(1000000)})
	}
	return p, l
}

func value(a api.Rat) *big.Rat {
	text, _ := rat.Text(a)
	x, _ := new(big.Rat).SetString(text)
	return x
}

func whole(n int) *big.Rat { return new(big.Rat).SetInt64(int64(n)) }

func dot(u, v api.Point) int { return u.X*v.X + u.Y*v.Y + u.Z*v.Z }

// P36.2: designs and fits.
func TestDesign(t *testing.T) {
	r := rand.New(rand.NewPCG(36, 1))
	for range 60 {
		p, l := random(r)
		a, w, y, e := motion.Design(p, l)
		if e != api.OK || len(a) != len(l) || len(w) != len(l) || len(y) != len(l) {
			t.Fatal(e)
		}
		for i, x := range l {
			u, _ := distance.Direction(p, x.At)
			if !slices.Equal(a[i], []int{-u.X, -u.Y, -u.Z, unit}) || w[i] != x.Weight || value(y[i]).Cmp(whole(unit*x.Rate-dot(u, x.Vel))) != 0 {
				t.Fatalf("Design = %v, %v, %v", a[i], w[i], y[i])
			}
		}
		f, e := motion.Solve(p, l)
		want, e2 := normal.Solve(a, w, y)
		if !reflect.DeepEqual(f, want) || e != api.OK || e2 != api.OK {
			t.Fatalf("Solve: %v, %v", e, e2)
		}
	}
}

// P36.3, P36.6: levels by the definition.
func TestLevels(t *testing.T) {
	r := rand.New(rand.NewPCG(36, 2))
	for range 40 {
		p, l := random(r)
		h, s := r.IntN(1<<r.IntN(31)), r.IntN(100000001)
		for _, x := range l {
			d, _ := distance.Range(p, x.At)
			h = min(h, d-1)
		}
		f, _ := motion.Solve(p, l)
		got, e := motion.Levels(p, l, h, s)
		if e != api.OK || len(got) != 4 {
			t.Fatal(e)
		}
		for k := range got {
			sum := new(big.Rat)
			for i, x := range l {
				square := big.NewInt(int64(dot(x.Vel, x.Vel)))
				v := new(big.Int).Sqrt(square)
				if new(big.Int).Mul(v, v).Cmp(square) < 0 {
					v.Add(v, big.NewInt(1))
				}
				d, _ := distance.Range(p, x.At)
				off := new(big.Rat).Add(big.NewRat(int64(2*h), int64(d)), big.NewRat(1, unit))
				off.Mul(off, whole(int(v.Int64())+s)).Add(off, whole(x.Err)).Mul(off, whole(unit))
				sum.Add(sum, off.Mul(off, new(big.Rat).Abs(value(f.Shape[k][i]))))
			}
			if value(got[k]).Cmp(sum) != 0 {
				t.Fatalf("Levels = %v, want %v", got[k], sum)
			}
		}
		l[0].Err += 10
		more, _ := motion.Levels(p, l, h/2, s)
		again, _ := motion.Levels(p, l, h, s)
		for k := range more {
			if value(more[k]).Cmp(value(again[k])) > 0 || value(got[k]).Cmp(value(again[k])) > 0 {
				t.Fatal("the levels fall")
			}
		}
	}
}

// P36.4: the levels cover the true velocity and drift.
func TestCovered(t *testing.T) {
	r := rand.New(rand.NewPCG(36, 3))
	for range 60 {
		p, l := random(r)
		v, drift := point(r, 100000), r.IntN(2000000)-1000000
		by := 1 << r.IntN(28)
		x := api.Point{X: p.X + r.IntN(by), Y: p.Y - r.IntN(by), Z: p.Z + r.IntN(by)}
		h, _ := distance.Range(p, x)
		h++
		for i, y := range l {
			// The true rate with directions of 100 bits, that is nearly exactly.
			d := [3]int{y.At.X - x.X, y.At.Y - x.Y, y.At.Z - x.Z}
			square := new(big.Int)
			for _, c := range d {
				square.Add(square, new(big.Int).Mul(big.NewInt(int64(c)), big.NewInt(int64(c))))
			}
			length := new(big.Int).Sqrt(square.Lsh(square, 200))
			product := new(big.Int)
			for k, c := range [3]int{y.Vel.X - v.X, y.Vel.Y - v.Y, y.Vel.Z - v.Z} {
				product.Add(product, new(big.Int).Mul(big.NewInt(int64(c)), big.NewInt(int64(d[k]))))
			}
			rate := new(big.Rat).SetFrac(product.Lsh(product, 100), length)
			near, _ := rate.Float64()
			l[i].Err = 2 + r.IntN(1000)
			l[i].Rate = int(near) + drift + (l[i].Err-2)*(1-2*r.IntN(2))
		}
		f, _ := motion.Solve(p, l)
		levels, e := motion.Levels(p, l, h, 173300)
		if e == api.ErrRange {
			continue
		}
		if e != api.OK {
			t.Fatal(e)
		}
		for k, truth := range [4]int{v.X, v.Y, v.Z, drift} {
			off := new(big.Rat).Sub(value(f.X[k]), whole(truth))
			if off.Abs(off).Cmp(value(levels[k])) > 0 {
				t.Fatalf("the unknown %d is off by %v, more than %v", k, off, value(levels[k]))
			}
		}
	}
}

// P36.5: rates that belong to a design exactly.
func TestExact(t *testing.T) {
	l := example()
	f, e := motion.Solve(api.Point{}, l)
	for k, want := range []int{10, -2, 3, 3} {
		if e != api.OK || value(f.X[k]).Cmp(whole(want)) != 0 {
			t.Errorf("Solve = %v, %v", f.X, e)
		}
	}
	levels, e := motion.Levels(api.Point{}, l, 0, 0)
	for k, want := range []int{1, 2, 2, 1} {
		if e != api.OK || value(levels[k]).Cmp(whole(want)) != 0 {
			t.Errorf("Levels = %v, %v", levels, e)
		}
	}
	_, _, y, _ := motion.Design(api.Point{}, l)
	if value(y[0]).Cmp(whole(-7*unit)) != 0 || value(y[3]).Cmp(whole(13*unit)) != 0 {
		t.Errorf("Design = %v", y)
	}
}

// P36.1, P36.3: the errors, in their order.
func TestErrors(t *testing.T) {
	change := func(f func(l []api.Rate)) []api.Rate {
		l := example()
		f(l)
		return l
	}
	out := api.Point{Z: near + 1}
	for i, x := range []struct {
		p api.Point
		l []api.Rate
		e api.Errno
	}{
		{out, nil, api.ErrRange}, {api.Point{X: -1 << 63}, nil, api.ErrRange}, {api.Point{}, make([]api.Rate, 3), api.ErrShort}, {api.Point{}, make([]api.Rate, 17), api.ErrLong}, {api.Point{}, make([]api.Rate, 16), api.ErrRange},
		{api.Point{}, change(func(l []api.Rate) { l[1].At = out }), api.ErrRange}, {api.Point{}, change(func(l []api.Rate) { l[1].Vel.X = 100000001 }), api.ErrRange}, {api.Point{}, change(func(l []api.Rate) { l[1].Vel.Z = -100000001 }), api.ErrRange},
		{api.Point{}, change(func(l []api.Rate) { l[1].Rate = most + 1 }), api.ErrRange}, {api.Point{}, change(func(l []api.Rate) { l[1].Rate = -most - 1 }), api.ErrRange}, {api.Point{}, change(func(l []api.Rate) { l[1].Err = -1 }), api.ErrRange}, {api.Point{}, change(func(l []api.Rate) { l[1].Err = most + 1 }), api.ErrRange},
		{api.Point{}, change(func(l []api.Rate) { l[1].Weight = 0 }), api.ErrRange}, {api.Point{}, change(func(l []api.Rate) { l[1].Weight = 1000001 }), api.ErrRange}, {api.Point{}, change(func(l []api.Rate) { l[1].At, l[1].Weight = api.Point{}, 0 }), api.ErrRange},
		{api.Point{}, change(func(l []api.Rate) { l[1].At, l[2].Weight = api.Point{}, 0 }), api.ErrZero}, {api.Point{}, change(func(l []api.Rate) { l[1].Weight, l[2].At = 0, api.Point{} }), api.ErrRange},
	} {
		e := motion.Check(x.p, x.l)
		a, w, y, e1 := motion.Design(x.p, x.l)
		f, e2 := motion.Solve(x.p, x.l)
		levels, e3 := motion.Levels(x.p, x.l, -1, -1)
		if e != x.e || e1 != x.e || e2 != x.e || e3 != x.e || a != nil || w != nil || y != nil || !reflect.DeepEqual(f, api.Fit{}) || levels != nil {
			t.Errorf("%d: %v, %v, %v, %v, want %v", i, e, e1, e2, e3, x.e)
		}
	}
	flat := change(func(l []api.Rate) { l[3].At.X = 20000000000 })
	for i, x := range []struct {
		l    []api.Rate
		h, s int
		e    api.Errno
	}{
		{flat, -1, 0, api.ErrRange}, {flat, 10000000000, 0, api.ErrRange}, {flat, 400000000001, 0, api.ErrRange}, {flat, 0, -1, api.ErrRange}, {flat, 0, 100000001, api.ErrRange}, {flat, 0, 0, api.ErrSingular}, {example(), 9999999999, 100000000, api.OK},
	} {
		if levels, e := motion.Levels(api.Point{}, x.l, x.h, x.s); e != x.e || (levels == nil) != (e != api.OK) {
			t.Errorf("%d: Levels = %v, %v, want %v", i, levels, e, x.e)
		}
	}
	if f, e := motion.Solve(api.Point{}, flat); !reflect.DeepEqual(f, api.Fit{}) || e != api.ErrSingular {
		t.Errorf("Solve: %v", e)
	}
	great := change(func(l []api.Rate) {
		for i := range l {
			l[i].Rate, l[i].Vel = most, api.Point{X: -100000000, Y: 100000000, Z: -100000000}
		}
	})
	if _, _, y, e := motion.Design(api.Point{}, great); e != api.OK || value(y[0]).Cmp(whole(unit*(most+100000000))) != 0 {
		t.Errorf("Design of the greatest rates: %v", e)
	}
}
