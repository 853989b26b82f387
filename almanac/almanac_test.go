package almanac_test

import (
	"math/big"
	"math/rand/v2"
	"reflect"
	"slices"
	"testing"

	"skyfix/almanac"
	"skyfix/api"
)

// example is the page of the chapter's examples.
func example() api.Page {
	return api.Page{Prn: 3, T0: 600000, Err: 100, Grow: 1000, X: [3]int{1, 2, 3}}
}

// signed returns a number of so many bits, now and then an extreme one.
func signed(r *rand.Rand, bits int) int {
	low, high := -1<<(bits-1), 1<<(bits-1)-1
	switch r.IntN(4) {
	case 0:
		return low
	case 1:
		return high
	}
	return low + r.IntN(high-low+1)
}

func random(r *rand.Rand) api.Page {
	p := api.Page{Prn: 1 + r.IntN(63), T0: r.IntN(604800), Err: r.IntN(65536), Grow: r.IntN(1 << 20)}
	for i, bits := range []int{20, 14, 12} {
		p.X[i], p.Y[i], p.Z[i] = signed(r, bits), signed(r, bits), signed(r, bits)
	}
	return p
}

// age returns the age of a page by the definition.
func age(p api.Page, t int) int {
	d := t - p.T0
	for d > 302399 {
		d -= 604800
	}
	for d < -302400 {
		d += 604800
	}
	return d
}

// rounded returns n/d, rounded halves away from 0.
func rounded(n, d *big.Int) int {
	q := new(big.Int).Abs(n)
	q.Lsh(q, 1).Add(q, d).Quo(q, new(big.Int).Lsh(d, 1))
	if n.Sign() < 0 {
		q.Neg(q)
	}
	return int(q.Int64())
}

// P27.2: positions and bounds.
func TestAt(t *testing.T) {
	r := rand.New(rand.NewPCG(27, 1))
	for range 1000 {
		p := random(r)
		s := r.IntN(604800)
		d := big.NewInt(int64(age(p, s)))
		at, e := almanac.At(p, s)
		if e != api.OK {
			t.Fatal(e)
		}
		for i, c := range [3][3]int{p.X, p.Y, p.Z} {
			n := new(big.Int).Mul(big.NewInt(int64(c[2])), new(big.Int).Mul(d, d))
			n.Add(n, new(big.Int).Mul(big.NewInt(int64(1024*c[1])), d)).Add(n, big.NewInt(int64(1024*64*c[0])))
			if want := rounded(n, big.NewInt(1024)); at[i] != want {
				t.Fatalf("At(%v, %d) = %v, want %d", p, s, at, want)
			}
		}
		far := max(age(p, s), -age(p, s))
		n, e := almanac.Error(p, s)
		if want := p.Err + (p.Grow*far+3599)/3600; n != want || e != api.OK {
			t.Fatalf("Error(%v, %d) = %d, %v, want %d", p, s, n, e, want)
		}
	}
	for s, want := range map[int][3]int{600010: {84}, 590000: {273033}, 100: {80206}} {
		if at, e := almanac.At(example(), s); at != want || e != api.OK {
			t.Errorf("At(%d) = %v, %v", s, at, e)
		}
	}
	for s, want := range map[int]int{600000: 100, 600001: 101, 596400: 1100} {
		if n, e := almanac.Error(example(), s); n != want || e != api.OK {
			t.Errorf("Error(%d) = %v, %v", s, n, e)
		}
	}
	for _, s := range []int{-1, 604800, -1 << 63} {
		at, e1 := almanac.At(example(), s)
		n, e2 := almanac.Error(example(), s)
		if at != [3]int{} || n != 0 || e1 != api.ErrRange || e2 != api.ErrRange {
			t.Errorf("At, Error(%d): %v, %v", s, e1, e2)
		}
	}
}

// P27.1: pages that are none.
func TestCheck(t *testing.T) {
	bad := []func(p *api.Page){
		func(p *api.Page) { *p = api.Page{} }, func(p *api.Page) { p.Prn = 64 }, func(p *api.Page) { p.Prn = -1 }, func(p *api.Page) { p.T0 = 604800 }, func(p *api.Page) { p.T0 = -1 },
		func(p *api.Page) { p.Err = 65536 }, func(p *api.Page) { p.Err = -1 }, func(p *api.Page) { p.Grow = 1 << 20 }, func(p *api.Page) { p.Grow = -1 },
	}
	for i, bits := range []int{20, 14, 12} {
		for _, over := range []int{1 << (bits - 1), -1<<(bits-1) - 1, 1 << 62} {
			bad = append(bad, func(p *api.Page) { p.X[i] = over }, func(p *api.Page) { p.Y[i] = over }, func(p *api.Page) { p.Z[i] = over })
		}
	}
	for i, change := range bad {
		p := example()
		change(&p)
		f, e1 := almanac.Frame(p, -1)
		at, e2 := almanac.At(p, -1)
		n, e3 := almanac.Error(p, -1)
		l, e4 := almanac.Add(nil, p)
		if e := almanac.Check(p); e != api.ErrRange || e1 != e || e2 != e || e3 != e || e4 != e {
			t.Errorf("%d: %v, %v, %v, %v, %v", i, e, e1, e2, e3, e4)
		}
		if !reflect.DeepEqual(f, api.Frame{}) || at != [3]int{} || n != 0 || l != nil {
			t.Errorf("%d: there is a result beside an error", i)
		}
		if _, e := almanac.Find([]api.Page{p}, 3); e != api.ErrRange {
			t.Errorf("%d: Find: %v", i, e)
		}
	}
}

// put appends so many bits of a number.
func put(l []int, n, bits int) []int {
	for i := bits - 1; i >= 0; i-- {
		l = append(l, n>>i&1)
	}
	return l
}

// P27.1, P27.5: frames.
func TestFrame(t *testing.T) {
	r := rand.New(rand.NewPCG(27, 2))
	for range 300 {
		p, tow := random(r), r.IntN(131072)
		f, e := almanac.Frame(p, tow)
		want := put(put(put(put(nil, p.Prn, 6), p.T0, 20), p.Err, 16), p.Grow, 20)
		for _, c := range [3][3]int{p.X, p.Y, p.Z} {
			want = put(put(put(want, c[0], 20), c[1], 14), c[2], 12)
		}
		want = append(want, make([]int, 6)...)
		if !reflect.DeepEqual(f, api.Frame{Tow: tow, Kind: 4, Data: want}) || e != api.OK {
			t.Fatalf("Frame = %v, %v", f, e)
		}
		if q, e := almanac.Read(f); q != p || e != api.OK {
			t.Fatalf("Read = %v, %v, want %v", q, e, p)
		}
	}
	for _, tow := range []int{-1, 131072, 1 << 62} {
		if f, e := almanac.Frame(example(), tow); !reflect.DeepEqual(f, api.Frame{}) || e != api.ErrRange {
			t.Errorf("Frame(%d) = %v, %v", tow, f, e)
		}
	}
	f, _ := almanac.Frame(example(), 9)
	var ones []int
	for i, b := range f.Data {
		if b == 1 {
			ones = append(ones, i)
		}
	}
	if !slices.Equal(ones, []int{4, 5, 6, 9, 12, 15, 16, 17, 18, 19, 35, 36, 39, 52, 53, 54, 55, 56, 58, 81, 94, 106, 107}) {
		t.Errorf("the data are 1 at %v", ones)
	}
	for i, change := range []func(f *api.Frame){
		func(f *api.Frame) { f.Kind = 3 }, func(f *api.Frame) { f.Kind = 5 }, func(f *api.Frame) { f.Tow = -1 }, func(f *api.Frame) { f.Tow = 131072 }, func(f *api.Frame) { f.Data = f.Data[:205] }, func(f *api.Frame) { f.Data = append(f.Data, 0) },
		func(f *api.Frame) { f.Data = nil }, func(f *api.Frame) { f.Data[4], f.Data[5] = 0, 0 }, func(f *api.Frame) { f.Data[30] = 2 }, func(f *api.Frame) { f.Data[199] = -1 }, func(f *api.Frame) { f.Data[200] = 1 }, func(f *api.Frame) { f.Data[205] = 1 },
		func(f *api.Frame) { f.Data[205] = 2 }, func(f *api.Frame) { copy(f.Data[6:], put(nil, 604800, 20)) }, func(f *api.Frame) { f.Data[0] = 2 },
	} {
		f, _ := almanac.Frame(example(), 9)
		change(&f)
		if p, e := almanac.Read(f); p != (api.Page{}) || e != api.ErrForm {
			t.Errorf("%d: Read = %v, %v", i, p, e)
		}
	}
}

// P27.3, P27.6: pages that are added.
func TestAdd(t *testing.T) {
	r := rand.New(rand.NewPCG(27, 3))
	for range 60 {
		var l []api.Page
		kept := map[int]api.Page{}
		for range 40 {
			p := random(r)
			p.Prn = 1 + r.IntN(20)
			old, ok := kept[p.Prn]
			if !ok || age(old, p.T0) >= 0 {
				kept[p.Prn] = p
			}
			before := slices.Clone(l)
			next, e := almanac.Add(l, p)
			again, e2 := almanac.Add(next, kept[p.Prn])
			if e != api.OK || e2 != api.OK || !slices.Equal(l, before) || !slices.Equal(again, next) {
				t.Fatalf("Add: %v, %v", e, e2)
			}
			l = next
		}
		if len(l) != len(kept) {
			t.Fatalf("there are %d pages, want %d", len(l), len(kept))
		}
		for i, p := range l {
			if p != kept[p.Prn] || i > 0 && p.Prn <= l[i-1].Prn {
				t.Fatalf("the page %d is %v, want %v", i, p, kept[p.Prn])
			}
			if q, e := almanac.Find(l, p.Prn); q != p || e != api.OK {
				t.Fatalf("Find(%d) = %v, %v", p.Prn, q, e)
			}
		}
		checkMissing(t, r, l, kept)
	}
	p := example()
	later, earlier := p, p
	later.T0, later.Err = 0, 5
	earlier.T0 = 599999
	if l, _ := almanac.Add([]api.Page{p}, later); !slices.Equal(l, []api.Page{later}) {
		t.Errorf("Add of a later page = %v", l)
	}
	if l, _ := almanac.Add([]api.Page{p}, earlier); !slices.Equal(l, []api.Page{p}) {
		t.Errorf("Add of an earlier page = %v", l)
	}
}

// P27.4, P27.7: what is missing.
func checkMissing(t *testing.T, r *rand.Rand, l []api.Page, kept map[int]api.Page) {
	t.Helper()
	s, most := r.IntN(604800), r.IntN(1<<27)>>r.IntN(27)
	prns := []int{5, -1, 5, 63, 64, 1, 2, 1 << 62, 20}
	var want []int
	for _, prn := range prns {
		p, ok := kept[prn]
		bound, _ := almanac.Error(p, s)
		if !ok || bound > most {
			want = append(want, prn)
		}
	}
	got, e := almanac.Missing(l, prns, s, most)
	if !slices.Equal(got, want) || e != api.OK {
		t.Fatalf("Missing = %v, %v, want %v", got, e, want)
	}
	if more, _ := almanac.Missing(l, prns, s, most+1000); len(more) > len(got) {
		t.Fatalf("Missing = %v with a greater bound", more)
	}
}

// The errors of almanacs, in their order.
func TestErrors(t *testing.T) {
	p, q := example(), example()
	q.Prn = 2
	many := make([]api.Page, 64)
	full := make([]api.Page, 63)
	for i := range full {
		full[i] = example()
		full[i].Prn = i + 1
	}
	for i, x := range []struct {
		l []api.Page
		e api.Errno
	}{{many, api.ErrLong}, {[]api.Page{p, q, {}}, api.ErrRange}, {[]api.Page{p, q}, api.ErrOrder}, {[]api.Page{p, p}, api.ErrOrder}} {
		l, e1 := almanac.Add(x.l, api.Page{})
		f, e2 := almanac.Find(x.l, 99)
		m, e3 := almanac.Missing(x.l, nil, -1, 0)
		if e1 != x.e || e2 != x.e || e3 != x.e || l != nil || f != (api.Page{}) || m != nil {
			t.Errorf("%d: %v, %v, %v, want %v", i, e1, e2, e3, x.e)
		}
	}
	if l, e := almanac.Add(full, p); len(l) != 63 || e != api.OK {
		t.Errorf("Add to a full almanac: %v", e)
	}
	if f, e := almanac.Find([]api.Page{p}, 4); f != (api.Page{}) || e != api.ErrNone {
		t.Errorf("Find = %v, %v", f, e)
	}
	for _, s := range []int{-1, 604800} {
		if m, e := almanac.Missing(nil, []int{1}, s, 0); m != nil || e != api.ErrRange {
			t.Errorf("Missing(%d) = %v, %v", s, m, e)
		}
	}
}
