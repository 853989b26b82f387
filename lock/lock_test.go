package lock_test

import (
	"math/rand/v2"
	"slices"
	"testing"

	"skyfix/api"
	"skyfix/lock"
)

// step makes a step by the definition.
func step(l api.Lock, claimed bool) api.Lock {
	if claimed {
		l.Up = min(l.Up+1, l.Need)
		l.Down = 0
		if l.Up == l.Need {
			l.Locked = true
		}
		return l
	}
	l.Down = min(l.Down+1, l.Miss)
	l.Up = 0
	if l.Down == l.Miss {
		l.Locked = false
	}
	return l
}

// reachable returns all states that steps lead to.
func reachable(need, miss int) map[api.Lock]bool {
	first := api.Lock{Need: need, Miss: miss}
	seen := map[api.Lock]bool{first: true}
	for work := []api.Lock{first}; len(work) > 0; work = work[1:] {
		for _, claimed := range []bool{false, true} {
			if next := step(work[0], claimed); !seen[next] {
				seen[next] = true
				work = append(work, next)
			}
		}
	}
	return seen
}

// P19.1, P19.2: all states, and those that are none.
func TestStates(t *testing.T) {
	for _, x := range [][2]int{{1, 1}, {1, 2}, {2, 1}, {1, 3}, {3, 1}, {2, 2}, {2, 3}, {5, 4}, {3, 7}} {
		valid := reachable(x[0], x[1])
		for up := -1; up <= x[0]+1; up++ {
			for down := -1; down <= x[1]+1; down++ {
				for _, locked := range []bool{false, true} {
					l := api.Lock{Need: x[0], Miss: x[1], Up: up, Down: down, Locked: locked}
					e := lock.Check(l)
					if !valid[l] {
						checkInvalid(t, l, e, api.ErrForm)
						continue
					}
					if e != api.OK {
						t.Fatalf("Check(%v) = %v", l, e)
					}
					for _, claimed := range []bool{false, true} {
						if next, e := lock.Step(l, claimed); next != step(l, claimed) || e != api.OK {
							t.Fatalf("Step(%v, %v) = %v, %v", l, claimed, next, e)
						}
					}
				}
			}
		}
	}
}

// checkInvalid checks the functions with a state that is not valid.
func checkInvalid(t *testing.T, l api.Lock, e, want api.Errno) {
	t.Helper()
	next, e1 := lock.Step(l, true)
	last, locked, e2 := lock.Run(l, make([]bool, 10001))
	n, e3 := lock.Reach(l, 0)
	if e != want || e1 != want || e2 != want || e3 != want {
		t.Fatalf("%v: %v, %v, %v, %v, want %v", l, e, e1, e2, e3, want)
	}
	if next != (api.Lock{}) || last != next || locked != nil || n != 0 {
		t.Fatalf("%v: there is a result beside an error", l)
	}
}

// P19.1: New, and numbers that are out of range.
func TestNew(t *testing.T) {
	for _, x := range [][2]int{{0, 1}, {1, 0}, {101, 1}, {1, 101}, {-1, 5}, {5, -1 << 63}} {
		if l, e := lock.New(x[0], x[1]); l != (api.Lock{}) || e != api.ErrRange {
			t.Errorf("New(%v) = %v, %v", x, l, e)
		}
		l := api.Lock{Need: x[0], Miss: x[1], Up: 5, Down: 5}
		checkInvalid(t, l, lock.Check(l), api.ErrRange)
	}
	for _, x := range [][2]int{{1, 1}, {100, 100}, {2, 3}} {
		if l, e := lock.New(x[0], x[1]); l != (api.Lock{Need: x[0], Miss: x[1]}) || e != api.OK {
			t.Errorf("New(%v) = %v, %v", x, l, e)
		}
	}
}

// P19.2, P19.4, P19.5: runs.
func TestRun(t *testing.T) {
	r := rand.New(rand.NewPCG(19, 1))
	for range 300 {
		first, _ := lock.New(1+r.IntN(6), 1+r.IntN(6))
		claims := make([]bool, r.IntN(60))
		want, l := []bool{}, first
		for i := range claims {
			claims[i] = r.IntN(4) > 0
			l = step(l, claims[i])
			want = append(want, l.Locked)
		}
		last, locked, e := lock.Run(first, claims)
		if last != l || !slices.Equal(locked, want) || e != api.OK {
			t.Fatalf("Run = %v, %v, %v", last, locked, e)
		}
		k := r.IntN(len(claims) + 1)
		half, a, _ := lock.Run(first, claims[:k])
		other, b, _ := lock.Run(half, claims[k:])
		if other != last || !slices.Equal(slices.Concat(a, b), locked) {
			t.Fatal("running in parts is another thing")
		}
		for i, on := range locked {
			from := max(0, i+1-first.Miss)
			if on && !slices.Contains(claims[from:i+1], true) {
				t.Fatalf("locked without a claim: %v", claims[:i+1])
			}
		}
	}
	first, _ := lock.New(2, 3)
	_, locked, _ := lock.Run(first, []bool{true, true, false, false, true, false, false, false, true})
	if want := []bool{false, true, true, true, true, true, true, false, false}; !slices.Equal(locked, want) {
		t.Errorf("Run = %v", locked)
	}
	if _, locked, e := lock.Run(first, make([]bool, 10000)); len(locked) != 10000 || e != api.OK {
		t.Errorf("Run of as many as possible: %v", e)
	}
	if last, locked, e := lock.Run(first, make([]bool, 10001)); last != (api.Lock{}) || locked != nil || e != api.ErrLong {
		t.Errorf("Run of too many: %v", e)
	}
}

// P19.6: a locked channel is at most the reach away from a period, however it moves where nothing claims.
func TestWithinReach(t *testing.T) {
	r := rand.New(rand.NewPCG(19, 2))
	far := 0
	for range 300 {
		l, _ := lock.New(1+r.IntN(3), 1+r.IntN(40))
		over := 1 + r.IntN(8)
		reach, _ := lock.Reach(l, over)
		rate := []int{64, -64, r.IntN(129) - 64}[r.IntN(3)]
		first := r.IntN(100)
		// The channel is at place; the period k of the emitter begins at floor(k*rate/1024), without the length of the periods.
		start := func(k int) int {
			n := k * rate
			return (n - (n%1024+1024)%1024) / 1024
		}
		place := start(first) + r.IntN(2*over-1) - (over - 1)
		away := 1 - 2*r.IntN(2)
		for k := first; k < first+200; k++ {
			off := place - start(k)
			l, _ = lock.Step(l, max(off, -off) < over && r.IntN(3) > 0)
			if l.Locked && max(off, -off) > reach {
				t.Fatalf("a locked channel is %d away, more than %d", off, reach)
			}
			if l.Locked {
				far = max(far, max(off, -off)-over)
			}
			switch {
			case max(off, -off) >= over || r.IntN(4) == 0:
				place += away
			case r.IntN(8) == 0:
				away = -away
			}
		}
	}
	if far < 5 {
		t.Errorf("locked channels are at most %d farther away than a chip", far)
	}
}

// P19.3: the reach.
func TestReach(t *testing.T) {
	for miss := 1; miss <= 100; miss++ {
		l, _ := lock.New(3, miss)
		for over := 1; over <= 8; over++ {
			d := miss - 1
			least := 0
			for 1024*least < d*64+1024 {
				least++
			}
			if n, e := lock.Reach(l, over); n != over-1+d+least || e != api.OK {
				t.Fatalf("Reach(miss %d, %d) = %d, %v", miss, over, n, e)
			}
		}
		for _, over := range []int{0, -1, 9, 1 << 62} {
			if n, e := lock.Reach(l, over); n != 0 || e != api.ErrRange {
				t.Fatalf("Reach(.., %d) = %d, %v", over, n, e)
			}
		}
	}
}
