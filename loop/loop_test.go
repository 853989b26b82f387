package loop_test

import (
	"math/rand/v2"
	"slices"
	"testing"

	"skyfix/api"
	"skyfix/loop"
)

const most = 1 << 40

// random returns a valid loop, and now and then an extreme one.
func random(r *rand.Rand) api.Loop {
	l := api.Loop{Order: 1 + r.IntN(3), Limit: 1 + r.IntN(most)>>r.IntN(40)}
	for i := range l.Shift {
		l.Shift[i] = r.IntN(21)
	}
	if l.Order >= 2 {
		l.Second = r.IntN(2*l.Limit+1) - l.Limit
	}
	if l.Order == 3 {
		l.Third = r.IntN(2*l.Limit+1) - l.Limit
	}
	return l
}

func input(r *rand.Rand) int { return (r.IntN(2*most+1) - most) >> r.IntN(41) }

// step makes a step by the definition.
func step(l api.Loop, x int) (api.Loop, int) {
	limit := func(n int) int { return max(-l.Limit, min(l.Limit, n)) }
	part := func(k int) int {
		d := 1 << l.Shift[k]
		n := (2*max(x, -x) + d) / (2 * d)
		if x < 0 {
			return -n
		}
		return n
	}
	if l.Order == 3 {
		l.Third = limit(l.Third + part(2))
	}
	if l.Order >= 2 {
		l.Second = limit(l.Second + part(1) + l.Third)
	}
	return l, limit(part(0) + l.Second)
}

func negative(l api.Loop) api.Loop {
	l.Second, l.Third = -l.Second, -l.Third
	return l
}

// P18.2, P18.4: steps.
func TestStep(t *testing.T) {
	r := rand.New(rand.NewPCG(18, 1))
	for range 3000 {
		l, x := random(r), input(r)
		want, out := step(l, x)
		next, got, e := loop.Step(l, x)
		if next != want || got != out || e != api.OK || loop.Check(next) != api.OK {
			t.Fatalf("Step(%v, %d) = %v, %d, %v, want %v, %d", l, x, next, got, e, want, out)
		}
		if max(got, -got) > l.Limit {
			t.Fatalf("the output %d passes the limit %d", got, l.Limit)
		}
		if next, got, _ := loop.Step(negative(l), -x); next != negative(want) || got != -out {
			t.Fatalf("Step(%v, %d) = %v, %d", negative(l), -x, next, got)
		}
	}
}

// P18.2, P18.5: runs.
func TestRun(t *testing.T) {
	r := rand.New(rand.NewPCG(18, 2))
	for range 200 {
		l := random(r)
		xs := make([]int, r.IntN(40))
		var outs []int
		want := l
		for i := range xs {
			xs[i] = input(r)
			var out int
			want, out = step(want, xs[i])
			outs = append(outs, out)
		}
		last, got, e := loop.Run(l, xs)
		if last != want || !slices.Equal(got, outs) || e != api.OK {
			t.Fatalf("Run = %v, %v, %v", last, got, e)
		}
		k := r.IntN(len(xs) + 1)
		first, a, _ := loop.Run(l, xs[:k])
		second, b, _ := loop.Run(first, xs[k:])
		if second != last || !slices.Equal(slices.Concat(a, b), got) {
			t.Fatal("running in parts is another thing")
		}
	}
	if last, out, e := loop.Run(api.Loop{Order: 1, Limit: 2}, make([]int, 10000)); last.Limit != 2 || len(out) != 10000 || e != api.OK {
		t.Errorf("Run of as many as possible: %v", e)
	}
}

// P18.3: Follow by the definition.
func TestFollow(t *testing.T) {
	r := rand.New(rand.NewPCG(18, 3))
	for range 200 {
		l, place := random(r), input(r)
		targets := make([]int, r.IntN(40))
		at, want := place, l
		var places []int
		for i := range targets {
			targets[i] = input(r)
			var out int
			want, out = step(want, max(-most, min(most, targets[i]-at)))
			at += out
			places = append(places, at)
		}
		last, got, e := loop.Follow(l, place, targets)
		if last != want || !slices.Equal(got, places) || e != api.OK {
			t.Fatalf("Follow = %v, %v, %v, want %v", last, got, e, places)
		}
	}
}

// P18.6: a loop of first order halves the distance.
func TestHalving(t *testing.T) {
	l, _ := loop.New(1, [3]int{1, 0, 0}, most)
	for _, d := range []int{1, 2, 3, 7, 8, 1000, -1000, most - 1, -most} {
		digits := 0
		for x := max(d, -d); x > 0; x /= 2 {
			digits++
		}
		_, places, _ := loop.Follow(l, 0, slices.Repeat([]int{d}, digits))
		left := max(d, -d)
		for _, p := range places {
			left /= 2
			if e := d - p; max(e, -e) != left {
				t.Fatalf("%d: the distance is %d, want %d", d, e, left)
			}
		}
		if left != 0 {
			t.Fatalf("%d: %d is left", d, left)
		}
	}
}

// P18.7: loops without shifts follow exactly.
func TestExact(t *testing.T) {
	for order := 1; order <= 3; order++ {
		l, _ := loop.New(order, [3]int{}, most)
		var targets []int
		for i := range 20 {
			x := []int{[]int{5, -90, 7, 1000}[i%4], 40 + 13*i, 9 - 4*i + 3*i*i}[order-1]
			targets = append(targets, x)
		}
		_, places, _ := loop.Follow(l, 0, targets)
		for i := order - 1; i+1 < len(targets); i++ {
			want := targets[i+1]
			if order == 1 {
				want = targets[i]
			}
			if places[i] != want {
				t.Fatalf("order %d: the place behind %d is %d, want %d", order, i, places[i], want)
			}
		}
	}
}

// The examples of the chapter.
func TestExamples(t *testing.T) {
	l, _ := loop.New(2, [3]int{0, 1, 0}, 100)
	l, a, _ := loop.Step(l, 5)
	m, b, _ := loop.Step(l, 5)
	if a != 8 || l.Second != 3 || b != 11 || m.Second != 6 {
		t.Errorf("Step = %d, %v, %d, %v", a, l, b, m)
	}
	l, _ = loop.New(1, [3]int{}, 2)
	if _, out, _ := loop.Run(l, []int{1, 5, -9}); !slices.Equal(out, []int{1, 2, -2}) {
		t.Errorf("Run = %v", out)
	}
	l, _ = loop.New(2, [3]int{}, 100)
	if _, places, _ := loop.Follow(l, 0, []int{0, 3, 6, 9, 12}); !slices.Equal(places, []int{0, 6, 9, 12, 15}) {
		t.Errorf("Follow = %v", places)
	}
}

// P18.1, P18.2, P18.3: the errors.
func TestErrors(t *testing.T) {
	good := api.Loop{Order: 3, Shift: [3]int{20, 0, 20}, Limit: most, Second: -most, Third: most}
	if loop.Check(good) != api.OK {
		t.Error("Check refuses a loop")
	}
	for i, change := range []func(l *api.Loop){
		func(l *api.Loop) { *l = api.Loop{} },
		func(l *api.Loop) { l.Order = 0 }, func(l *api.Loop) { l.Order = 4 }, func(l *api.Loop) { l.Order = -1 },
		func(l *api.Loop) { l.Shift[0] = 21 }, func(l *api.Loop) { l.Shift[1] = -1 }, func(l *api.Loop) { l.Shift[2] = 21 },
		func(l *api.Loop) { l.Limit = 0 }, func(l *api.Loop) { l.Limit = -5 }, func(l *api.Loop) { l.Limit = most + 1 },
		func(l *api.Loop) { l.Limit = most - 1 }, func(l *api.Loop) { l.Second = most + 1 }, func(l *api.Loop) { l.Third = -most - 1 },
		func(l *api.Loop) { l.Order = 2 }, func(l *api.Loop) { l.Order, l.Third = 1, 0 }, func(l *api.Loop) { l.Order, l.Second = 1, 0 },
	} {
		l := good
		change(&l)
		a, out, e1 := loop.Step(l, most+1)
		b, outs, e2 := loop.Run(l, nil)
		c, places, e3 := loop.Follow(l, 0, make([]int, 10001))
		if e1 != api.ErrRange || e2 != api.ErrRange || e3 != api.ErrRange || loop.Check(l) != api.ErrRange {
			t.Errorf("%d: %v, %v, %v, %v", i, e1, e2, e3, loop.Check(l))
		}
		if a != (api.Loop{}) || b != a || c != a || out != 0 || outs != nil || places != nil {
			t.Errorf("%d: there is a result beside an error", i)
		}
	}
	long := make([]int, 10001)
	for i, x := range []struct {
		place int
		xs    []int
		e     api.Errno
	}{{0, []int{0, most + 1}, api.ErrRange}, {0, []int{-most - 1}, api.ErrRange}, {0, long, api.ErrLong}, {0, []int{-1 << 63}, api.ErrRange}, {most + 1, long, api.ErrRange}, {-most - 1, nil, api.ErrRange}, {-most, []int{most, -most}, api.OK}} {
		l, places, e := loop.Follow(good, x.place, x.xs)
		if e != x.e || e != api.OK && (l != (api.Loop{}) || places != nil) {
			t.Errorf("%d: Follow: %v, want %v", i, e, x.e)
		}
		if x.place == 0 {
			if l, out, e := loop.Run(good, x.xs); e != x.e || l != (api.Loop{}) || out != nil {
				t.Errorf("%d: Run: %v, want %v", i, e, x.e)
			}
		}
	}
	for _, x := range []int{most + 1, -most - 1, -1 << 63} {
		if l, out, e := loop.Step(good, x); l != (api.Loop{}) || out != 0 || e != api.ErrRange {
			t.Errorf("Step(%d): %v", x, e)
		}
	}
	for _, x := range []struct {
		order int
		shift [3]int
		limit int
	}{{4, [3]int{}, 5}, {0, [3]int{}, 5}, {1, [3]int{21}, 5}, {1, [3]int{0, 0, -1}, 5}, {1, [3]int{}, 0}, {1, [3]int{}, most + 1}} {
		if l, e := loop.New(x.order, x.shift, x.limit); l != (api.Loop{}) || e != api.ErrRange {
			t.Errorf("New(%v) = %v, %v", x, l, e)
		}
	}
	if l, e := loop.New(3, [3]int{20, 20, 20}, most); l != (api.Loop{Order: 3, Shift: [3]int{20, 20, 20}, Limit: most}) || e != api.OK {
		t.Errorf("New = %v, %v", l, e)
	}
}
