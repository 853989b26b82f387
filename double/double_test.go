package double_test

import (
	"math/big"
	"math/rand/v2"
	"reflect"
	"slices"
	"testing"

	"skyfix/api"
	"skyfix/double"
	"skyfix/matrix"
	"skyfix/normal"
	"skyfix/rat"
)

const unit = 1 << 30

func value(a api.Rat) *big.Rat {
	text, _ := rat.Text(a)
	x, _ := new(big.Rat).SetString(text)
	return x
}

func of(x *big.Rat) api.Rat {
	a, _ := rat.Parse(x.RatString())
	return a
}

func whole(n int) *big.Rat { return new(big.Rat).SetInt64(int64(n)) }

func mul(l ...*big.Rat) *big.Rat {
	p := whole(1)
	for _, x := range l {
		p.Mul(p, x)
	}
	return p
}

func random(r *rand.Rand, many int) []api.Obs {
	var l []api.Obs
	for _, prn := range r.Perm(20)[:many] {
		l = append(l, api.Obs{Prn: prn + 1, Range: r.IntN(2000000000), Phase: r.IntN(1<<37) - 1<<36, Lock: -5})
	}
	return l
}

func find(l []api.Obs, prn int) (api.Obs, bool) {
	i := slices.IndexFunc(l, func(o api.Obs) bool { return o.Prn == prn })
	if i < 0 {
		return api.Obs{}, false
	}
	return l[i], true
}

// P37.1, P37.2, P37.5: common satellites and double differences.
func TestDifferences(t *testing.T) {
	r := rand.New(rand.NewPCG(37, 1))
	some := 0
	for range 300 {
		base, rover := random(r, r.IntN(17)), random(r, r.IntN(17))
		var want []int
		for prn := 1; prn <= 20; prn++ {
			_, a := find(base, prn)
			_, b := find(rover, prn)
			if a && b {
				want = append(want, prn)
			}
		}
		common, e := double.Common(base, rover)
		if !slices.Equal(common, want) || e != api.OK {
			t.Fatalf("Common = %v, %v, want %v", common, e, want)
		}
		if len(common) < 4 {
			continue
		}
		r.Shuffle(len(common), func(i, k int) { common[i], common[k] = common[k], common[i] })
		prns := common[:4]
		codes, phases, e := double.Differences(base, rover, prns)
		back, turns, e2 := double.Differences(rover, base, prns)
		if e != api.OK || e2 != api.OK || len(codes) != 3 || len(phases) != 3 {
			t.Fatal(e, e2)
		}
		some++
		for i, prn := range prns[1:] {
			a, _ := find(base, prn)
			b, _ := find(rover, prn)
			p, _ := find(base, prns[0])
			q, _ := find(rover, prns[0])
			if codes[i] != (b.Range-a.Range)-(q.Range-p.Range) || phases[i] != (b.Phase-a.Phase)-(q.Phase-p.Phase) || back[i] != -codes[i] || turns[i] != -phases[i] {
				t.Fatalf("Differences = %v, %v", codes, phases)
			}
		}
		for i := range base {
			base[i].Range += 777
			base[i].Phase -= 55555
		}
		if c, p, _ := double.Differences(base, rover, prns); !slices.Equal(c, codes) || !slices.Equal(p, phases) {
			t.Fatalf("a clock changes %v, %v to %v, %v", codes, phases, c, p)
		}
	}
	if some < 50 {
		t.Errorf("only %d lists have four satellites in common", some)
	}
}

// P37.1, P37.2: the errors, in their order.
func TestDifferencesErrors(t *testing.T) {
	const most = 10000000000000
	good := []api.Obs{{Prn: 1}, {Prn: 2}, {Prn: 3}, {Prn: 4}}
	for i, x := range []struct {
		l []api.Obs
		e api.Errno
	}{
		{make([]api.Obs, 17), api.ErrLong}, {make([]api.Obs, 16), api.ErrRange}, {[]api.Obs{{Prn: 2049}}, api.ErrRange}, {[]api.Obs{{Prn: -1}}, api.ErrRange}, {[]api.Obs{{Prn: 1, Range: most + 1}}, api.ErrRange}, {[]api.Obs{{Prn: 1, Range: -most - 1}}, api.ErrRange},
		{[]api.Obs{{Prn: 1, Phase: 1<<40 + 1}}, api.ErrRange}, {[]api.Obs{{Prn: 1, Phase: -1<<40 - 1}}, api.ErrRange}, {[]api.Obs{{Prn: 1}, {Prn: 1}, {}}, api.ErrDouble}, {[]api.Obs{{Prn: 1}, {}, {Prn: 1}}, api.ErrRange},
		{[]api.Obs{{Prn: 2048, Range: -most, Phase: 1 << 40, Lock: -1 << 63}}, api.OK},
	} {
		e := double.Check(x.l)
		c, e1 := double.Common(x.l, make([]api.Obs, 17))
		d, e2 := double.Common(good, x.l)
		codes, phases, e3 := double.Differences(good, x.l, nil)
		want1, want3 := x.e, x.e
		if x.e == api.OK {
			want1, want3 = api.ErrLong, api.ErrType
		}
		if e != x.e || e1 != want1 || e2 != x.e || e3 != want3 || c != nil || d != nil || codes != nil || phases != nil {
			t.Errorf("%d: %v, %v, %v, %v, want %v", i, e, e1, e2, e3, x.e)
		}
	}
	far := slices.Clone(good)
	far[3].Range = 4000000001
	turned := slices.Clone(good)
	turned[2].Phase = -1<<38 - 1
	for i, x := range []struct {
		rover []api.Obs
		prns  []int
		e     api.Errno
	}{
		{good, []int{1, 1, 9}, api.ErrType}, {good, []int{1, 2, 3, 4, 5}, api.ErrType}, {good, []int{9, 9, 8, 7}, api.ErrDouble}, {good, []int{1, 2, 3, 3}, api.ErrDouble}, {far, []int{1, 2, 4, 5}, api.ErrNone}, {good[:3], []int{1, 2, 3, 4}, api.ErrNone},
		{far, []int{1, 2, 3, 4}, api.ErrOver}, {far, []int{4, 2, 3, 1}, api.ErrOver}, {turned, []int{1, 2, 3, 4}, api.ErrOver}, {good, []int{4, 3, 2, 1}, api.OK},
	} {
		codes, phases, e := double.Differences(good, x.rover, x.prns)
		if e != x.e || (codes == nil) != (e != api.OK) || (phases == nil) != (e != api.OK) {
			t.Errorf("%d: Differences = %v, %v, %v, want %v", i, codes, phases, e, x.e)
		}
	}
	far[3].Range, turned[2].Phase = 4000000000, -1<<38
	for i, rover := range [][]api.Obs{far, turned} {
		if _, _, e := double.Differences(good, rover, []int{1, 2, 3, 4}); e != api.OK {
			t.Errorf("%d: Differences: %v", i, e)
		}
	}
}

// sky returns four directions.
func sky(r *rand.Rand) []api.Point {
	l := make([]api.Point, 4)
	for i := range l {
		c := func() int { return r.IntN(2*unit+1) - unit }
		l[i] = api.Point{X: c(), Y: c(), Z: c()}
	}
	return l
}

// heads returns the coordinates of -v(i).
func heads(l []api.Point) [][]int {
	var out [][]int
	for _, u := range l[1:] {
		out = append(out, []int{l[0].X - u.X, l[0].Y - u.Y, l[0].Z - u.Z})
	}
	return out
}

// P37.3: designs and fits, with all kinds of numbers.
func TestFits(t *testing.T) {
	r := rand.New(rand.NewPCG(37, 2))
	for range 60 {
		l, wave := sky(r), 1+r.IntN(1000)
		codes, phases, fixed := make([]int, 3), make([]int, 3), make([]int, 3)
		for i := range 3 {
			codes[i], phases[i], fixed[i] = r.IntN(8000000001)-4000000000, r.IntN(1<<39+1)-1<<38, r.IntN(2000000001)-1000000000
		}
		var rows, short [][]int
		var y, z []api.Rat
		for i, h := range heads(l) {
			rows = append(rows, append(slices.Clone(h), 0, 0, 0))
			y = append(y, of(mul(whole(codes[i]), whole(unit))))
		}
		for i, h := range heads(l) {
			row := append(slices.Clone(h), 0, 0, 0)
			row[3+i] = unit * wave
			rows, short = append(rows, row), append(short, h)
			turns := mul(whole(phases[i]), whole(wave), whole(1<<24))
			y = append(y, of(turns))
			z = append(z, of(new(big.Rat).Sub(turns, mul(whole(unit), whole(wave), whole(fixed[i])))))
		}
		c, p := 1+r.IntN(1000000), 1+r.IntN(1000000)
		want, e := normal.Solve(rows, []int{c, c, c, p, p, p}, y)
		got, e2 := double.Float(l, wave, codes, phases, c, p)
		if !reflect.DeepEqual(got, want) || e != e2 || e != api.OK {
			t.Fatalf("Float: %v, %v", e2, e)
		}
		want, e = normal.Solve(short, []int{1, 1, 1}, z)
		got, e2 = double.Fixed(l, wave, phases, fixed)
		if !reflect.DeepEqual(got, want) || e != e2 || e != api.OK {
			t.Fatalf("Fixed: %v, %v", e2, e)
		}
	}
}

// axes are the directions of the chapter's examples.
func axes() []api.Point {
	return []api.Point{{X: unit}, {Y: unit}, {Z: unit}, {X: -unit}}
}

// P37.6: what follows from a baseline and ambiguities leads back to them.
func TestExact(t *testing.T) {
	f, e := double.Float(axes(), 64, []int{10, 20, 20}, []int{74, -44, 20}, 1, 100)
	for k, want := range []int{10, 0, -10, 1, -1, 0} {
		if e != api.OK || value(f.X[k]).Cmp(whole(want)) != 0 {
			t.Errorf("Float = %v, %v", f.X, e)
		}
	}
	f, e = double.Fixed(axes(), 64, []int{74, -44, 20}, []int{1, -1, 0})
	for k, want := range []int{10, 0, -10} {
		if e != api.OK || value(f.X[k]).Cmp(whole(want)) != 0 {
			t.Errorf("Fixed = %v, %v", f.X, e)
		}
	}
	r := rand.New(rand.NewPCG(37, 3))
	for range 40 {
		// With directions along the axes and a wave of 64 mm all differences are integers.
		b := [3]int{r.IntN(2001) - 1000, r.IntN(2001) - 1000, r.IntN(2001) - 1000}
		codes := []int{b[0] - b[1], b[0] - b[2], 2 * b[0]}
		phases, fixed := make([]int, 3), make([]int, 3)
		for i := range 3 {
			fixed[i] = r.IntN(2001) - 1000
			phases[i] = codes[i] + 64*fixed[i]
		}
		f, _ := double.Float(axes(), 64, codes, phases, 1+r.IntN(9), 1+r.IntN(999))
		g, _ := double.Fixed(axes(), 64, phases, fixed)
		for k := range 3 {
			if value(f.X[k]).Cmp(whole(b[k])) != 0 || value(f.X[3+k]).Cmp(whole(fixed[k])) != 0 || value(g.X[k]).Cmp(whole(b[k])) != 0 {
				t.Fatalf("Float, Fixed = %v, %v, want %v, %v", f.X, g.X, b, fixed)
			}
		}
	}
}

// P37.3: the errors, in their order.
func TestFitErrors(t *testing.T) {
	three, great := []int{0, 0, 0}, []int{0, 0, 1 << 40}
	for i, x := range []struct {
		l             []api.Point
		wave          int
		codes, phases []int
		c, p          int
		e             api.Errno
	}{
		{axes()[:3], 0, great, great, 0, 0, api.ErrType}, {append(axes(), api.Point{}), 64, three, three, 1, 1, api.ErrType}, {axes(), 0, three[:2], three, 1, 1, api.ErrType}, {axes(), 0, three, append(three, 0), 1, 1, api.ErrType},
		{[]api.Point{{X: unit + 1}, {}, {}, {}}, 64, three, three, 1, 1, api.ErrRange}, {[]api.Point{{}, {}, {}, {Z: -unit - 1}}, 64, three, three, 1, 1, api.ErrRange}, {axes(), 0, three, three, 1, 1, api.ErrRange}, {axes(), 1001, three, three, 1, 1, api.ErrRange}, {axes(), -1, three, three, 1, 1, api.ErrRange},
		{axes(), 64, []int{0, 4000000001, 0}, three, 1, 1, api.ErrRange}, {axes(), 64, three, []int{-1<<38 - 1, 0, 0}, 1, 1, api.ErrRange}, {axes(), 64, three, three, 0, 1, api.ErrRange}, {axes(), 64, three, three, 1, 0, api.ErrRange}, {axes(), 64, three, three, 1000001, 1, api.ErrRange}, {axes(), 64, three, three, 1, 1000001, api.ErrRange},
		{make([]api.Point, 4), 64, three, three, 1, 1, api.ErrSingular}, {axes(), 1000, []int{4000000000, -4000000000, 0}, []int{1 << 38, -1 << 38, 0}, 1000000, 1000000, api.OK},
	} {
		f, e := double.Float(x.l, x.wave, x.codes, x.phases, x.c, x.p)
		if e != x.e || e != api.OK && !reflect.DeepEqual(f, api.Fit{}) {
			t.Errorf("%d: Float: %v, want %v", i, e, x.e)
		}
	}
	for i, x := range []struct {
		l        []api.Point
		wave     int
		phases   []int
		integers []int
		e        api.Errno
	}{
		{axes()[:3], 0, great, three, api.ErrType}, {axes(), 0, three[:2], three, api.ErrType}, {axes(), 0, three, three[:2], api.ErrType}, {[]api.Point{{X: unit + 1}, {}, {}, {}}, 64, three, three, api.ErrRange}, {axes(), 0, three, three, api.ErrRange}, {axes(), 64, great, three, api.ErrRange},
		{axes(), 64, three, []int{1000000001, 0, 0}, api.ErrRange}, {axes(), 64, three, []int{0, -1000000001, 0}, api.ErrRange}, {make([]api.Point, 4), 64, three, three, api.ErrSingular}, {axes(), 1000, []int{1 << 38, 0, 0}, []int{-1000000000, 1000000000, 0}, api.OK},
	} {
		f, e := double.Fixed(x.l, x.wave, x.phases, x.integers)
		if e != x.e || e != api.OK && !reflect.DeepEqual(f, api.Fit{}) {
			t.Errorf("%d: Fixed: %v, want %v", i, e, x.e)
		}
	}
}

// bound returns the bound by the definition.
func bound(f api.Fit, wave int, errors []int) *big.Rat {
	_, q, _ := double.Part(f)
	p, _ := matrix.Inv(q)
	var c [3]*big.Rat
	for k := range c {
		c[k] = new(big.Rat)
		for i, x := range f.Shape[3+k] {
			scale := unit
			if i >= 3 {
				scale = wave << 24
			}
			c[k].Add(c[k], mul(new(big.Rat).Abs(value(x)), whole(errors[i]), whole(scale)))
		}
	}
	sum := new(big.Rat)
	for j := range p {
		for k := range p {
			sum.Add(sum, mul(new(big.Rat).Abs(value(p[j][k])), c[j], c[k]))
		}
	}
	return sum
}

// P37.4, P37.7: parts and bounds.
func TestBound(t *testing.T) {
	r := rand.New(rand.NewPCG(37, 4))
	for range 40 {
		l, wave := sky(r), 64
		b := [3]int{r.IntN(20001) - 10000, r.IntN(20001) - 10000, r.IntN(20001) - 10000}
		codes, phases, integers, errors := make([]int, 3), make([]int, 3), make([]int, 3), make([]int, 6)
		for i, h := range heads(l) {
			exact := mul(whole(h[0]*b[0]+h[1]*b[1]+h[2]*b[2]), big.NewRat(1, unit))
			near, _ := exact.Float64()
			integers[i] = r.IntN(1000) - 500
			errors[i], errors[3+i] = 1+r.IntN(3000), 1+r.IntN(5)
			codes[i] = int(near) + (errors[i]-1)*(1-2*r.IntN(2))
			phases[i] = int(near) + 64*integers[i] + (errors[3+i]-1)*(1-2*r.IntN(2))
		}
		f, e := double.Float(l, wave, codes, phases, 1, 1000)
		got, e2 := double.Bound(f, wave, errors)
		if e != api.OK || e2 != api.OK || value(got).Cmp(bound(f, wave, errors)) != 0 {
			t.Fatalf("Bound = %v, %v, %v", got, e, e2)
		}
		a, q, e := double.Part(f)
		if e != api.OK || len(a) != 3 || len(q) != 3 {
			t.Fatal(e)
		}
		for j := range 3 {
			if !reflect.DeepEqual(a[j], f.X[3+j]) || !reflect.DeepEqual(q[j], f.Cov[3+j][3:]) {
				t.Fatalf("Part = %v, %v", a, q)
			}
		}
		// The norm of the true ambiguities is at most the bound.
		p, _ := matrix.Inv(q)
		var d []api.Rat
		for j, n := range integers {
			d = append(d, of(new(big.Rat).Sub(whole(n), value(a[j]))))
		}
		norm, _ := matrix.Quad(p, d)
		if value(norm).Cmp(value(got)) > 0 {
			t.Fatalf("the norm %v is greater than the bound %v", value(norm), value(got))
		}
	}
}

// P37.4: the errors, in their order.
func TestBoundErrors(t *testing.T) {
	good := func() api.Fit {
		f, _ := double.Float(axes(), 64, []int{10, 20, 20}, []int{74, -44, 20}, 1, 100)
		return f
	}
	six := []int{1, 1, 1, 1, 1, 1}
	for i, x := range []struct {
		change func(f *api.Fit)
		wave   int
		errors []int
		part   api.Errno
		e      api.Errno
	}{
		{func(f *api.Fit) { *f = api.Fit{} }, 0, nil, api.ErrType, api.ErrType}, {func(f *api.Fit) { f.X = f.X[:5] }, 0, nil, api.ErrType, api.ErrType}, {func(f *api.Fit) { f.Cov = f.Cov[:5] }, 0, nil, api.ErrType, api.ErrType}, {func(f *api.Fit) { f.Cov[5] = f.Cov[5][:5] }, 0, nil, api.ErrType, api.ErrType}, {func(f *api.Fit) { f.Cov[0] = append(f.Cov[0], api.Rat{}) }, 64, six, api.ErrType, api.ErrType},
		{func(f *api.Fit) { f.Shape = f.Shape[:5] }, 0, six, api.OK, api.ErrType}, {func(f *api.Fit) { f.Shape[0] = nil }, 0, six, api.OK, api.ErrType}, {func(f *api.Fit) {}, 0, six[:5], api.OK, api.ErrType}, {func(f *api.Fit) {}, 0, append(six, 1), api.OK, api.ErrType},
		{func(f *api.Fit) { f.Cov[0][0] = api.Rat{} }, 0, six, api.OK, api.ErrRange}, {func(f *api.Fit) {}, 1001, six, api.OK, api.ErrRange}, {func(f *api.Fit) {}, 64, []int{1, 1, 1, 1, 1, -1}, api.OK, api.ErrRange}, {func(f *api.Fit) {}, 64, []int{1000000001, 1, 1, 1, 1, 1}, api.OK, api.ErrRange},
		{func(f *api.Fit) { f.Cov[0][0], f.Shape[0][0] = api.Rat{}, api.Rat{Den: api.Nat{0}} }, 64, six, api.OK, api.ErrZero}, {func(f *api.Fit) { f.Shape[0][0] = api.Rat{Den: api.Nat{0}} }, 64, six, api.OK, api.ErrForm}, {func(f *api.Fit) { f.Cov[4], f.Shape[0][0] = f.Cov[3], api.Rat{} }, 64, six, api.OK, api.ErrZero}, {func(f *api.Fit) { f.Cov[4] = f.Cov[3] }, 64, six, api.OK, api.ErrSingular},
		{func(f *api.Fit) { f.X[0] = api.Rat{} }, 1000, []int{0, 0, 0, 1000000000, 0, 0}, api.OK, api.OK},
	} {
		f := good()
		x.change(&f)
		a, q, e1 := double.Part(f)
		b, e2 := double.Bound(f, x.wave, x.errors)
		if e1 != x.part || e2 != x.e || e1 != api.OK && (a != nil || q != nil) || e2 != api.OK && !reflect.DeepEqual(b, api.Rat{}) {
			t.Errorf("%d: %v, %v, want %v, %v", i, e1, e2, x.part, x.e)
		}
	}
	// Only the bound has to have room, not the inverse.
	f := good()
	great := of(new(big.Rat).SetFrac(big.NewInt(1), new(big.Int).Lsh(big.NewInt(1), 8000)))
	f.Cov[3][3], f.Cov[3][4], f.Cov[3][5] = great, of(whole(0)), of(whole(0))
	f.Cov[4][3], f.Cov[5][3] = of(whole(0)), of(whole(0))
	f.Shape[3] = slices.Repeat([]api.Rat{of(whole(0))}, 6)
	if _, e := double.Bound(f, 64, six); e != api.OK {
		t.Errorf("Bound: %v", e)
	}
	f.Shape[3][0] = of(new(big.Rat).SetInt(new(big.Int).Lsh(big.NewInt(1), 4000)))
	if b, e := double.Bound(f, 64, six); !reflect.DeepEqual(b, api.Rat{}) || e != api.ErrOver {
		t.Errorf("Bound = %v, want ErrOver", e)
	}
}

// DOC.md, R4: results share no memory with arguments.
func TestMemory(t *testing.T) {
	f, _ := double.Float(axes(), 64, []int{10, 20, 20}, []int{74, -44, 20}, 1, 100)
	a, q, _ := double.Part(f)
	a[0].Den[0], q[0][0].Den[0] = 99, 99
	if f.X[3].Den[0] == 99 || f.Cov[3][3].Den[0] == 99 {
		t.Error("Part shares memory")
	}
}
