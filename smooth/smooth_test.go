package smooth_test

import (
	"math/rand/v2"
	"reflect"
	"slices"
	"testing"

	"skyfix/api"
	"skyfix/smooth"
)

const most = 10000000000000

// step makes a step by the definition.
func step(s api.Smooth, p, f int) (api.Smooth, api.Ratio, bool) {
	d, sum := p-f, 0
	for _, x := range s.Diffs {
		sum += x
	}
	n := len(s.Diffs)
	far := d*n - sum
	slipped := n > 0 && max(far, -far) > s.Limit*n
	l := slices.Clone(s.Diffs)
	if slipped {
		l = nil
	}
	l = append(l, d)
	if len(l) > s.Window {
		l = l[1:]
	}
	sum = 0
	for _, x := range l {
		sum += x
	}
	return api.Smooth{Window: s.Window, Limit: s.Limit, Diffs: l}, api.Ratio{Num: f*len(l) + sum, Den: len(l)}, slipped
}

// P30.2, P30.3: steps, one by one and all of them.
func TestStep(t *testing.T) {
	r := rand.New(rand.NewPCG(30, 1))
	slipped := 0
	for range 200 {
		size := []int{50, 1000000, most}[r.IntN(3)]
		window, limit := 1+r.IntN(100), r.IntN(min(2*size, 1000000000))
		s, e := smooth.New(window, limit)
		if e != api.OK {
			t.Fatal(e)
		}
		var l [][2]int
		var ratios []api.Ratio
		var slips []int
		for i := range r.IntN(250) {
			m := [2]int{r.IntN(2*size+1) - size, r.IntN(2*size+1) - size}
			want, ratio, slip := step(s, m[0], m[1])
			before := slices.Clone(s.Diffs)
			next, got, is, e := smooth.Step(s, m[0], m[1])
			if !reflect.DeepEqual(next, want) || got != ratio || is != slip || e != api.OK || !slices.Equal(s.Diffs, before) {
				t.Fatalf("Step = %v, %v, %v, %v, want %v, %v, %v", next, got, is, e, want, ratio, slip)
			}
			if slip {
				slips = append(slips, i)
				slipped++
			}
			l, ratios, s = append(l, m), append(ratios, ratio), next
		}
		got, at, e := smooth.Replay(window, limit, l)
		if !slices.Equal(got, ratios) || !slices.Equal(at, slips) || e != api.OK {
			t.Fatalf("Replay = %v, %v, %v", got, at, e)
		}
	}
	if slipped == 0 {
		t.Error("no phase slips")
	}
}

// P30.4, P30.5: smoothed ranges are near the true ones, and slips are reported if, and only if, there are some.
func TestNear(t *testing.T) {
	r := rand.New(rand.NewPCG(30, 2))
	for range 200 {
		noise, wave := r.IntN(1000), r.IntN(100)
		limit := 2*noise + 2*wave + r.IntN(50)
		offset := r.IntN(1000000)
		phase := r.IntN(1000000)
		var l [][2]int
		var truth, slips []int
		x := r.IntN(20000000)
		for i := range 150 {
			x += r.IntN(2000) - 1000
			if i > 0 && r.IntN(40) == 0 {
				phase += limit + 2*noise + 2*wave + 1 + r.IntN(500)
				slips = append(slips, i)
			}
			truth = append(truth, x)
			l = append(l, [2]int{x + offset + r.IntN(2*noise+1) - noise, x + phase + r.IntN(2*wave+1) - wave})
		}
		smoothed, at, e := smooth.Replay(1+r.IntN(100), limit, l)
		if e != api.OK || !slices.Equal(at, slips) {
			t.Fatalf("Replay: %v, slips %v, want %v", e, at, slips)
		}
		for i, s := range smoothed {
			if far := s.Num - (truth[i]+offset)*s.Den; max(far, -far) > (noise+2*wave)*s.Den {
				t.Fatalf("the range %d is %v, want %d, at most %d off", i, s, truth[i]+offset, noise+2*wave)
			}
		}
	}
}

// P30.6: the first range, that of a slip, and shifts.
func TestShifts(t *testing.T) {
	r := rand.New(rand.NewPCG(30, 3))
	var l, shifted [][2]int
	for range 100 {
		m := [2]int{r.IntN(1000), r.IntN(1000)}
		l = append(l, m)
		shifted = append(shifted, [2]int{m[0] + 123456, m[1] - 777})
	}
	a, slips, _ := smooth.Replay(7, 600, l)
	b, others, _ := smooth.Replay(7, 600, shifted)
	if !slices.Equal(slips, others) || len(slips) == 0 {
		t.Fatalf("slips %v, %v", slips, others)
	}
	for i := range a {
		if b[i] != (api.Ratio{Num: a[i].Num + 123456*a[i].Den, Den: a[i].Den}) {
			t.Fatalf("the range %v becomes %v", a[i], b[i])
		}
	}
	for _, i := range append(slips, 0) {
		if a[i] != (api.Ratio{Num: l[i][0], Den: 1}) {
			t.Fatalf("the range at %d is %v", i, a[i])
		}
	}
}

// The examples of the chapter.
func TestExamples(t *testing.T) {
	l := [][2]int{{1000, 400}, {1130, 510}, {1190, 600}, {1310, 700}, {1400, 1000}}
	smoothed, slips, e := smooth.Replay(3, 100, l)
	want := []api.Ratio{{Num: 1000, Den: 1}, {Num: 2240, Den: 2}, {Num: 3610, Den: 3}, {Num: 3920, Den: 3}, {Num: 1400, Den: 1}}
	if !slices.Equal(smoothed, want) || !slices.Equal(slips, []int{4}) || e != api.OK {
		t.Errorf("Replay = %v, %v, %v", smoothed, slips, e)
	}
}

// P30.1, P30.2, P30.3: the errors, in their order.
func TestErrors(t *testing.T) {
	for i, x := range []struct {
		s api.Smooth
		e api.Errno
	}{
		{api.Smooth{}, api.ErrRange}, {api.Smooth{Window: 101, Diffs: make([]int, 200)}, api.ErrRange}, {api.Smooth{Window: 1, Limit: -1, Diffs: []int{0, 0}}, api.ErrRange}, {api.Smooth{Window: 1, Limit: 1000000001}, api.ErrRange},
		{api.Smooth{Window: 1, Diffs: []int{1 << 62, 0}}, api.ErrLong}, {api.Smooth{Window: 2, Diffs: []int{0, 2*most + 1}}, api.ErrRange}, {api.Smooth{Window: 2, Diffs: []int{-2*most - 1}}, api.ErrRange},
	} {
		next, r, slipped, e := smooth.Step(x.s, most+1, 0)
		if smooth.Check(x.s) != x.e || e != x.e || !reflect.DeepEqual(next, api.Smooth{}) || r != (api.Ratio{}) || slipped {
			t.Errorf("%d: %v, %v, want %v", i, smooth.Check(x.s), e, x.e)
		}
	}
	great := api.Smooth{Window: 100, Limit: 1000000000, Diffs: slices.Repeat([]int{2 * most}, 100)}
	if e := smooth.Check(great); e != api.OK {
		t.Errorf("Check = %v", e)
	}
	if next, r, slipped, e := smooth.Step(great, most, -most); e != api.OK || slipped || len(next.Diffs) != 100 || r != (api.Ratio{Num: 100 * most, Den: 100}) {
		t.Errorf("Step = %v, %v, %v", r, slipped, e)
	}
	good, _ := smooth.New(3, 5)
	for _, m := range [][2]int{{most + 1, 0}, {-most - 1, 0}, {0, most + 1}, {0, -most - 1}, {-1 << 63, 0}} {
		next, r, slipped, e := smooth.Step(good, m[0], m[1])
		if !reflect.DeepEqual(next, api.Smooth{}) || r != (api.Ratio{}) || slipped || e != api.ErrRange {
			t.Errorf("Step(%v): %v", m, e)
		}
		a, b, e := smooth.Replay(3, 5, [][2]int{{0, 0}, {100, 0}, m})
		if a != nil || b != nil || e != api.ErrRange {
			t.Errorf("Replay(%v): %v", m, e)
		}
	}
	for _, x := range [][2]int{{0, 1}, {101, 1}, {1, -1}, {1, 1000000001}} {
		s, e1 := smooth.New(x[0], x[1])
		a, b, e2 := smooth.Replay(x[0], x[1], make([][2]int, 10001))
		if !reflect.DeepEqual(s, api.Smooth{}) || a != nil || b != nil || e1 != api.ErrRange || e2 != api.ErrRange {
			t.Errorf("New, Replay(%v): %v, %v", x, e1, e2)
		}
	}
	if a, b, e := smooth.Replay(1, 1, make([][2]int, 10001)); a != nil || b != nil || e != api.ErrLong {
		t.Errorf("Replay of too many: %v", e)
	}
	if a, _, e := smooth.Replay(1, 1, make([][2]int, 10000)); len(a) != 10000 || e != api.OK {
		t.Errorf("Replay of as many as possible: %v", e)
	}
}
