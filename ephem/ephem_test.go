package ephem_test

import (
	"math/rand/v2"
	"reflect"
	"slices"
	"testing"

	"skyfix/api"
	"skyfix/ephem"
)

// signed returns a number of so many bits, now and then an extreme one.
func signed(r *rand.Rand, bits int) int {
	low, high := -1<<(bits-1), 1<<(bits-1)-1
	switch r.IntN(4) {
	case 0:
		return low
	case 1:
		return high
	}
	return low + r.IntN(high-low+1)
}

func random(r *rand.Rand) api.Ephemeris {
	e := api.Ephemeris{Prn: 1 + r.IntN(63), Issue: r.IntN(256), T0: r.IntN(604800), Acc: r.IntN(65536)}
	for i, bits := range []int{32, 24, 16} {
		e.Clock[i] = signed(r, bits)
	}
	for i, bits := range []int{32, 24, 22, 24} {
		e.X[i], e.Y[i], e.Z[i] = signed(r, bits), signed(r, bits), signed(r, bits)
	}
	return e
}

// small is the ephemeris E of the chapter's examples.
func small() api.Ephemeris { return api.Ephemeris{Prn: 1, Issue: 7, T0: 100} }

// put appends so many bits of a number.
func put(l []int, n, bits int) []int {
	for i := bits - 1; i >= 0; i-- {
		l = append(l, n>>i&1)
	}
	return l
}

// data returns the data of a kind by the table.
func data(e api.Ephemeris, kind int) []int {
	l := put(put(nil, e.Issue, 8), e.Prn, 6)
	axis := func(c [4]int, from, to int) {
		for i := from; i < to; i++ {
			l = put(l, c[i], []int{32, 24, 22, 24}[i])
		}
	}
	switch kind {
	case 1:
		l = put(put(l, e.T0, 20), e.Acc, 16)
		l = put(put(put(l, e.Clock[0], 32), e.Clock[1], 24), e.Clock[2], 16)
	case 2:
		axis(e.X, 0, 4)
		axis(e.Y, 0, 2)
	case 3:
		axis(e.Y, 2, 4)
		axis(e.Z, 0, 4)
	}
	return append(l, make([]int, 206-len(l))...)
}

func frames(t *testing.T, e api.Ephemeris) []api.Frame {
	t.Helper()
	l, err := ephem.Frames(e, 5)
	if err != api.OK || len(l) != 3 {
		t.Fatalf("Frames = %v, %v", l, err)
	}
	return l
}

// P26.1: ephemerides that are none.
func TestCheck(t *testing.T) {
	r := rand.New(rand.NewPCG(26, 1))
	for range 100 {
		if err := ephem.Check(random(r)); err != api.OK {
			t.Fatalf("Check = %v", err)
		}
	}
	bad := []func(e *api.Ephemeris){
		func(e *api.Ephemeris) { *e = api.Ephemeris{} }, func(e *api.Ephemeris) { e.Prn = 64 }, func(e *api.Ephemeris) { e.Prn = -1 }, func(e *api.Ephemeris) { e.Issue = 256 }, func(e *api.Ephemeris) { e.Issue = -1 },
		func(e *api.Ephemeris) { e.T0 = 604800 }, func(e *api.Ephemeris) { e.T0 = -1 }, func(e *api.Ephemeris) { e.Acc = 65536 }, func(e *api.Ephemeris) { e.Acc = -1 },
	}
	for i, bits := range []int{32, 24, 22, 24} {
		for _, over := range []int{1 << (bits - 1), -1<<(bits-1) - 1, 1 << 62, -1 << 63} {
			bad = append(bad, func(e *api.Ephemeris) { e.X[i] = over }, func(e *api.Ephemeris) { e.Y[i] = over }, func(e *api.Ephemeris) { e.Z[i] = over })
		}
	}
	for i, bits := range []int{32, 24, 16} {
		bad = append(bad, func(e *api.Ephemeris) { e.Clock[i] = 1 << (bits - 1) }, func(e *api.Ephemeris) { e.Clock[i] = -1<<(bits-1) - 1 })
	}
	for i, change := range bad {
		e := small()
		change(&e)
		ok, e1 := ephem.Fits(e, -1)
		l, e2 := ephem.Frames(e, -1)
		if err := ephem.Check(e); err != api.ErrRange || e1 != api.ErrRange || e2 != api.ErrRange || ok || l != nil {
			t.Errorf("%d: %v, %v, %v", i, err, e1, e2)
		}
	}
}

// P26.1: when an ephemeris holds.
func TestFits(t *testing.T) {
	r := rand.New(rand.NewPCG(26, 2))
	for range 300 {
		e := small()
		e.T0 = r.IntN(604800)
		for _, d := range []int{0, 7200, -7200, 7201, -7201, 302400, r.IntN(604800)} {
			s := (e.T0 + d + 604800) % 604800
			apart := ((s-e.T0)%604800 + 604800) % 604800
			want := apart <= 7200 || apart >= 604800-7200
			if ok, err := ephem.Fits(e, s); ok != want || err != api.OK {
				t.Fatalf("Fits(T0 %d, %d) = %v, %v", e.T0, s, ok, err)
			}
		}
	}
	for _, s := range []int{-1, 604800, 1 << 62} {
		if ok, err := ephem.Fits(small(), s); ok || err != api.ErrRange {
			t.Errorf("Fits(%d) = %v, %v", s, ok, err)
		}
	}
}

// P26.2, P26.3, P26.5: frames, and what is read from them in any order.
func TestFrames(t *testing.T) {
	r := rand.New(rand.NewPCG(26, 3))
	for range 200 {
		e := random(r)
		tow := r.IntN(131072)
		if r.IntN(3) == 0 {
			tow = 131070 + r.IntN(2)
		}
		l, err := ephem.Frames(e, tow)
		if err != api.OK || len(l) != 3 {
			t.Fatalf("Frames = %v, %v", l, err)
		}
		for i, f := range l {
			if f.Kind != i+1 || f.Tow != (tow+i)%131072 || !slices.Equal(f.Data, data(e, i+1)) {
				t.Fatalf("the frame %d is %v", i, f)
			}
		}
		r.Shuffle(3, func(i, k int) { l[i], l[k] = l[k], l[i] })
		if got, err := ephem.Read(l); got != e || err != api.OK {
			t.Fatalf("Read = %v, %v, want %v", got, err, e)
		}
	}
	for _, tow := range []int{-1, 131072, 1 << 62} {
		if l, err := ephem.Frames(small(), tow); l != nil || err != api.ErrRange {
			t.Errorf("Frames(%d) = %v, %v", tow, l, err)
		}
	}
	ones := []int{}
	for i, b := range frames(t, small())[0].Data {
		if b == 1 {
			ones = append(ones, i)
		}
	}
	if !slices.Equal(ones, []int{5, 6, 7, 13, 27, 28, 31}) {
		t.Errorf("the data of the first frame are 1 at %v", ones)
	}
}

// spoilt returns frames that are no part of an ephemeris.
func spoilt(t *testing.T) []api.Frame {
	var l []api.Frame
	for _, change := range []func(f *api.Frame){
		func(f *api.Frame) { f.Kind = 0 }, func(f *api.Frame) { f.Kind = 4 }, func(f *api.Frame) { f.Kind = -1 }, func(f *api.Frame) { f.Tow = -1 }, func(f *api.Frame) { f.Tow = 131072 },
		func(f *api.Frame) { f.Data = f.Data[:205] }, func(f *api.Frame) { f.Data = append(f.Data, 0) }, func(f *api.Frame) { f.Data = nil }, func(f *api.Frame) { f.Data[50] = 2 }, func(f *api.Frame) { f.Data[205] = -1 },
		func(f *api.Frame) { f.Data[205] = 1 }, func(f *api.Frame) { f.Data[122] = 1 }, func(f *api.Frame) { f.Data[13] = 0 }, func(f *api.Frame) { copy(f.Data[14:], put(nil, 604800, 20)) }, func(f *api.Frame) { copy(f.Data[14:], put(nil, 1<<20-1, 20)) },
	} {
		f := frames(t, small())[0]
		change(&f)
		l = append(l, f)
	}
	second, third := frames(t, small())[1], frames(t, small())[2]
	second.Data[172], third.Data[162] = 1, 1
	return append(l, second, third)
}

// P26.3: the errors of Read, in their order.
func TestReadErrors(t *testing.T) {
	e := frames(t, small())
	other := small()
	other.Issue = 8
	f := frames(t, other)
	other = small()
	other.Prn = 2
	g := frames(t, other)
	for i, x := range []struct {
		l   []api.Frame
		err api.Errno
	}{
		{nil, api.ErrForm}, {e[:2], api.ErrForm}, {append(slices.Clone(e), e[0]), api.ErrForm}, {[]api.Frame{e[0], e[1], f[2]}, api.ErrNone}, {[]api.Frame{e[0], g[1], e[2]}, api.ErrNone},
		{[]api.Frame{e[0], e[0], e[1]}, api.ErrNone}, {[]api.Frame{e[0], e[1], e[1]}, api.ErrNone}, {[]api.Frame{f[0], e[1], e[2]}, api.ErrNone}, {[]api.Frame{g[2], g[0], g[1]}, api.OK},
	} {
		if got, err := ephem.Read(x.l); err != x.err || err != api.OK && got != (api.Ephemeris{}) {
			t.Errorf("%d: Read = %v, %v, want %v", i, got, err, x.err)
		}
	}
	for i, bad := range spoilt(t) {
		for _, l := range [][]api.Frame{{bad, e[1], e[2]}, {e[0], f[1], bad}} {
			if got, err := ephem.Read(l); got != (api.Ephemeris{}) || err != api.ErrForm {
				t.Errorf("%d: Read = %v, %v", i, got, err)
			}
		}
		q, got, done, err := ephem.Add(api.Parts{}, bad)
		if !reflect.DeepEqual(q, api.Parts{}) || got != (api.Ephemeris{}) || done || err != api.ErrForm {
			t.Errorf("%d: Add: %v", i, err)
		}
	}
}

// added is what Add does, by the definition, for frames that are parts.
func added(p api.Parts, f api.Frame) (api.Parts, []api.Frame, bool) {
	issue, prn := 0, 0
	for i, b := range f.Data[:14] {
		if i < 8 {
			issue = 2*issue + b
		} else {
			prn = 2*prn + b
		}
	}
	if issue != p.Issue || prn != p.Prn {
		p = api.Parts{Issue: issue, Prn: prn}
	}
	p.Have[f.Kind-1], p.Data[f.Kind-1] = true, f.Data
	if p.Have == [3]bool{true, true, true} {
		var l []api.Frame
		for i, d := range p.Data {
			l = append(l, api.Frame{Kind: i + 1, Data: d})
		}
		return api.Parts{}, l, true
	}
	return p, nil, false
}

// P26.4, P26.5, P26.6: frames that come in any order.
func TestAdd(t *testing.T) {
	r := rand.New(rand.NewPCG(26, 4))
	var all []api.Frame
	for i := range 3 {
		e := random(r)
		e.Prn, e.Issue = 5, 9
		switch i {
		case 1:
			e.Issue = 10
		case 2:
			e.Prn = 6
		}
		all = append(all, frames(t, e)...)
	}
	complete := 0
	for range 50 {
		var p, want api.Parts
		for range 40 {
			f := all[r.IntN(len(all))]
			next, l, ok := added(want, f)
			before := api.Parts{Have: p.Have, Issue: p.Issue, Prn: p.Prn}
			for i := range p.Data {
				before.Data[i] = slices.Clone(p.Data[i])
			}
			q, e, done, err := ephem.Add(p, f)
			if !reflect.DeepEqual(q, next) || done != ok || err != api.OK || !reflect.DeepEqual(p, before) {
				t.Fatalf("Add = %v, %v, %v", q, done, err)
			}
			if ok {
				complete++
				if x, _ := ephem.Read(l); e != x {
					t.Fatalf("Add returns %v, want %v", e, x)
				}
			} else if e != (api.Ephemeris{}) {
				t.Fatalf("Add returns %v", e)
			}
			p, want = q, next
		}
	}
	if complete == 0 {
		t.Error("no ephemeris is complete")
	}
}

// P26.4: parts that are not valid.
func TestParts(t *testing.T) {
	e := frames(t, small())
	other := small()
	other.Issue = 8
	o := frames(t, other)
	good := func() api.Parts {
		return api.Parts{Have: [3]bool{true, false, true}, Issue: 7, Prn: 1, Data: [3][]int{slices.Clone(e[0].Data), nil, slices.Clone(e[2].Data)}}
	}
	if q, got, done, err := ephem.Add(good(), e[1]); !reflect.DeepEqual(q, api.Parts{}) || got != small() || !done || err != api.OK {
		t.Errorf("Add = %v, %v, %v, %v", q, got, done, err)
	}
	for i, change := range []func(p *api.Parts){
		func(p *api.Parts) { p.Issue = 8 }, func(p *api.Parts) { p.Prn = 2 }, func(p *api.Parts) { p.Have[1] = true }, func(p *api.Parts) { p.Have[0] = false }, func(p *api.Parts) { p.Data[1] = []int{0} },
		func(p *api.Parts) { p.Data[0] = p.Data[0][1:] }, func(p *api.Parts) { p.Data[0][60] = 2 }, func(p *api.Parts) { p.Data[2] = o[2].Data }, func(p *api.Parts) { p.Data[0][205] = 1 },
		func(p *api.Parts) { *p = api.Parts{Issue: 1} }, func(p *api.Parts) { *p = api.Parts{Prn: 1} }, func(p *api.Parts) { copy(p.Data[0][14:], put(nil, 604800, 20)) },
	} {
		p := good()
		change(&p)
		q, got, done, err := ephem.Add(p, api.Frame{})
		if !reflect.DeepEqual(q, api.Parts{}) || got != (api.Ephemeris{}) || done || err != api.ErrState {
			t.Errorf("%d: Add: %v, want ErrState", i, err)
		}
	}
}

// DOC.md, R4: parts share no memory.
func TestMemory(t *testing.T) {
	e := frames(t, small())
	p, _, _, _ := ephem.Add(api.Parts{}, e[0])
	q, _, _, _ := ephem.Add(p, e[1])
	q.Data[0][0], q.Data[1][0] = 9, 9
	if p.Data[0][0] == 9 || e[0].Data[0] == 9 || e[1].Data[0] == 9 {
		t.Error("Add shares memory")
	}
}
