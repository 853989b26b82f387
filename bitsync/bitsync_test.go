package bitsync_test

import (
	"math/rand/v2"
	"reflect"
	"slices"
	"testing"

	"skyfix/api"
	"skyfix/bitsync"
)

const most = 1 << 20

// sums returns samples, written I Q.
func sums(l ...int) []api.Sample {
	var s []api.Sample
	for i := 0; i < len(l); i += 2 {
		s = append(s, api.Sample{I: l[i], Q: l[i+1]})
	}
	return s
}

func random(r *rand.Rand, many int) []api.Sample {
	s := make([]api.Sample, many)
	for i := range s {
		s[i] = api.Sample{I: r.IntN(2*most+1) - most, Q: r.IntN(2*most+1) - most}
		if r.IntN(5) == 0 {
			s[i] = api.Sample{}
		}
	}
	return s
}

func product(a, b api.Sample) int { return a.I*b.I + a.Q*b.Q }

// P21.1, P21.2, P21.5: changes.
func TestFeed(t *testing.T) {
	r := rand.New(rand.NewPCG(21, 1))
	for range 300 {
		perBit := 1 + r.IntN(20)
		l := random(r, r.IntN(100))
		want, _ := bitsync.New(perBit)
		all := 0
		for k, s := range l {
			if k > 0 && product(l[k-1], s) < 0 {
				want.Changes[k%perBit]++
				all++
			}
			want.Last = s
		}
		want.Seen = len(l)
		first, _ := bitsync.New(perBit)
		got, e := bitsync.Feed(first, l)
		if e != api.OK || !reflect.DeepEqual(got, want) || bitsync.Check(got) != api.OK {
			t.Fatalf("Feed = %v, %v, want %v", got, e, want)
		}
		k := r.IntN(len(l) + 1)
		half, _ := bitsync.Feed(first, l[:k])
		before := slices.Clone(half.Changes)
		other, _ := bitsync.Feed(half, l[k:])
		if !reflect.DeepEqual(other, got) || !slices.Equal(before, half.Changes) {
			t.Fatal("feeding in parts is another thing")
		}
		one := first
		for _, s := range l {
			one, e = bitsync.Add(one, s)
		}
		if e != api.OK || !reflect.DeepEqual(one, got) || !slices.Equal(first.Changes, make([]int, perBit)) {
			t.Fatalf("Add = %v, %v", one, e)
		}
	}
}

// P21.3: edges.
func TestEdge(t *testing.T) {
	for _, x := range []struct {
		changes []int
		least   int
		edge    int
		e       api.Errno
	}{
		{[]int{2, 0}, 1, 0, api.OK}, {[]int{2, 0}, 2, 0, api.OK}, {[]int{2, 0}, 3, 0, api.ErrNone}, {[]int{2, 1}, 1, 0, api.ErrState}, {[]int{0, 0}, 1, 0, api.ErrNone},
		{[]int{1, 3}, 1, 1, api.OK}, {[]int{2, 3}, 1, 0, api.ErrState}, {[]int{1, 1}, 1, 0, api.ErrState}, {[]int{0, 1, 0}, 1, 1, api.OK}, {[]int{7}, 7, 0, api.OK}, {[]int{7}, 8, 0, api.ErrNone},
		{[]int{2, 1, 5}, 5, 2, api.OK}, {[]int{3, 1, 5}, 5, 0, api.ErrState}, {[]int{5, 1, 5}, 5, 0, api.ErrState}, {[]int{3, 6, 2}, 1, 0, api.ErrState}, {[]int{2, 6, 2}, 1, 1, api.OK},
		{[]int{2, 0}, 0, 0, api.ErrRange}, {[]int{2, 0}, -1, 0, api.ErrRange}, {[]int{2, 0}, 1000001, 0, api.ErrRange}, {[]int{2, 0}, 1000000, 0, api.ErrNone},
	} {
		if n, e := bitsync.Edge(api.Sync{Changes: x.changes, Seen: 50}, x.least); n != x.edge || e != x.e {
			t.Errorf("Edge(%v, %d) = %d, %v, want %d, %v", x.changes, x.least, n, e, x.edge, x.e)
		}
	}
}

// P21.4, P21.6: values and bits.
func TestRead(t *testing.T) {
	r := rand.New(rand.NewPCG(21, 2))
	for range 300 {
		perBit := 1 + r.IntN(20)
		at := r.IntN(perBit)
		l := random(r, r.IntN(150))
		for i := range l {
			l[i].I, l[i].Q = l[i].I/3, l[i].Q/3
		}
		var values []api.Sample
		var bits []int
		for k := at; k+perBit <= len(l); k += perBit {
			var v api.Sample
			for _, s := range l[k : k+perBit] {
				v.I, v.Q = v.I+s.I, v.Q+s.Q
			}
			bit := 0
			if n := len(values); n > 0 {
				bit = bits[n-1]
				if product(values[n-1], v) < 0 {
					bit = 1 - bit
				}
			}
			values, bits = append(values, v), append(bits, bit)
		}
		want := api.OK
		if len(values) == 0 {
			want = api.ErrShort
		}
		v, e1 := bitsync.Values(l, perBit, at)
		b, e2 := bitsync.Read(l, perBit, at)
		if !slices.Equal(v, values) || !slices.Equal(b, bits) || e1 != want || e2 != want {
			t.Fatalf("Values, Read = %v, %v, %v, %v", v, e1, b, e2)
		}
		if want != api.OK {
			continue
		}
		turned := slices.Clone(l)
		for i, s := range l {
			turned[i] = api.Sample{I: 3 * s.Q, Q: -3 * s.I}
		}
		if b, _ := bitsync.Read(turned, perBit, at); !slices.Equal(b, bits) {
			t.Fatal("turned sums have other bits")
		}
		first, _ := bitsync.New(perBit)
		x, _ := bitsync.Feed(first, l)
		y, _ := bitsync.Feed(first, turned)
		if !slices.Equal(x.Changes, y.Changes) {
			t.Fatal("turned sums have other changes")
		}
	}
}

// P21.7: the bits are right if the noise is small.
func TestRight(t *testing.T) {
	r := rand.New(rand.NewPCG(21, 3))
	for range 200 {
		perBit := 1 + r.IntN(20)
		at := r.IntN(perBit)
		c := api.Sample{I: r.IntN(2001) - 1000, Q: 4 + r.IntN(1000)}
		size := 0
		for 16*2*(size+1)*(size+1) <= c.I*c.I+c.Q*c.Q {
			size++
		}
		bits := make([]int, 12)
		var l []api.Sample
		changes := 0
		for j := range bits {
			bits[j] = r.IntN(2)
			if j > 0 && bits[j] != bits[j-1] {
				changes++
			}
			n := perBit
			if j == 0 {
				n = at
			}
			f := 1 - 2*bits[j]
			for range n {
				l = append(l, api.Sample{I: f*c.I + r.IntN(2*size+1) - size, Q: f*c.Q + r.IntN(2*size+1) - size})
			}
		}
		if at == 0 && bits[0] != bits[1] {
			changes--
		}
		first, _ := bitsync.New(perBit)
		s, e := bitsync.Feed(first, l)
		if e != api.OK {
			t.Fatal(e)
		}
		edge, e := bitsync.Edge(s, 1)
		if changes > 0 && (edge != at || e != api.OK) || changes == 0 && e != api.ErrNone {
			t.Fatalf("Edge = %d, %v, want %d, with %d changes", edge, e, at, changes)
		}
		got, e := bitsync.Read(l, perBit, at)
		want := bits[1:]
		if e != api.OK || len(got) != len(want) {
			t.Fatal(e)
		}
		for i := range got {
			if got[i] != want[i]^want[0] {
				t.Fatalf("Read = %v, want %v", got, want)
			}
		}
	}
}

// P21.1: syncs that are none.
func TestCheck(t *testing.T) {
	good := func() api.Sync { return api.Sync{Changes: []int{2, 3}, Seen: 5, Last: api.Sample{I: most, Q: -most}} }
	if bitsync.Check(good()) != api.OK {
		t.Fatal("Check refuses a sync")
	}
	for i, x := range []struct {
		change func(s *api.Sync)
		e      api.Errno
	}{
		{func(s *api.Sync) { *s = api.Sync{} }, api.ErrRange}, {func(s *api.Sync) { s.Changes = make([]int, 21) }, api.ErrRange}, {func(s *api.Sync) { s.Seen, s.Changes[0] = -1, -1 }, api.ErrRange}, {func(s *api.Sync) { s.Seen = 1000001 }, api.ErrRange},
		{func(s *api.Sync) { s.Last.I, s.Changes[0] = most+1, -1 }, api.ErrRange}, {func(s *api.Sync) { s.Last.Q = -most - 1 }, api.ErrRange},
		{func(s *api.Sync) { s.Changes[0] = -1 }, api.ErrForm}, {func(s *api.Sync) { s.Changes[1] = 4 }, api.ErrForm}, {func(s *api.Sync) { s.Changes[0], s.Changes[1] = 1<<63-1, 1<<63-1 }, api.ErrForm},
		{func(s *api.Sync) { *s = api.Sync{Changes: []int{0}, Last: api.Sample{Q: 1}} }, api.ErrForm}, {func(s *api.Sync) { s.Changes[0], s.Changes[1] = -1<<63, -1<<63 }, api.ErrForm},
	} {
		s := good()
		x.change(&s)
		a, e1 := bitsync.Add(s, api.Sample{I: most + 1})
		b, e2 := bitsync.Feed(s, make([]api.Sample, 10001))
		n, e3 := bitsync.Edge(s, 0)
		if e := bitsync.Check(s); e != x.e || e1 != x.e || e2 != x.e || e3 != x.e {
			t.Errorf("%d: %v, %v, %v, %v, want %v", i, e, e1, e2, e3, x.e)
		}
		if !reflect.DeepEqual([]api.Sync{a, b}, make([]api.Sync, 2)) || n != 0 {
			t.Errorf("%d: there is a result beside an error", i)
		}
	}
}

// P21.1, P21.2, P21.4: the errors of arguments, in their order.
func TestErrors(t *testing.T) {
	for _, n := range []int{0, -1, 21, 1 << 62} {
		if s, e := bitsync.New(n); !reflect.DeepEqual(s, api.Sync{}) || e != api.ErrRange {
			t.Errorf("New(%d) = %v, %v", n, s, e)
		}
	}
	full := api.Sync{Changes: []int{0}, Seen: 1000000}
	bad := api.Sample{I: most + 1}
	if s, e := bitsync.Add(full, bad); !reflect.DeepEqual(s, api.Sync{}) || e != api.ErrFull {
		t.Errorf("Add to a full sync: %v", e)
	}
	full.Seen--
	if s, e := bitsync.Add(full, api.Sample{}); s.Seen != 1000000 || e != api.OK {
		t.Errorf("Add of the last sum: %v", e)
	}
	if _, e := bitsync.Feed(full, []api.Sample{{}, bad}); e != api.ErrFull {
		t.Errorf("Feed = %v, want ErrFull", e)
	}
	if _, e := bitsync.Feed(full, []api.Sample{bad, {}}); e != api.ErrRange {
		t.Errorf("Feed = %v, want ErrRange", e)
	}
	first, _ := bitsync.New(2)
	if s, e := bitsync.Feed(first, slices.Repeat([]api.Sample{bad}, 10001)); !reflect.DeepEqual(s, api.Sync{}) || e != api.ErrLong {
		t.Errorf("Feed = %v, want ErrLong", e)
	}
	for i, x := range []struct {
		l          []api.Sample
		perBit, at int
		e          api.Errno
	}{
		{make([]api.Sample, 10001), 0, 0, api.ErrRange}, {make([]api.Sample, 10001), 21, 0, api.ErrRange}, {nil, 2, 2, api.ErrRange}, {nil, 2, -1, api.ErrRange}, {slices.Repeat([]api.Sample{bad}, 10001), 2, 0, api.ErrLong},
		{[]api.Sample{bad}, 2, 0, api.ErrRange}, {sums(0, -most-1), 2, 0, api.ErrRange}, {nil, 1, 0, api.ErrShort}, {sums(1, 0, 1, 0), 2, 1, api.ErrShort}, {sums(1, 0, 1, 0), 2, 0, api.OK}, {make([]api.Sample, 10000), 1, 0, api.OK},
	} {
		v, e1 := bitsync.Values(x.l, x.perBit, x.at)
		b, e2 := bitsync.Read(x.l, x.perBit, x.at)
		if e1 != x.e || e2 != x.e || (v == nil) != (x.e != api.OK) || (b == nil) != (x.e != api.OK) {
			t.Errorf("%d: %v, %v, want %v", i, e1, e2, x.e)
		}
	}
}
