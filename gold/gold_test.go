package gold_test

import (
	"slices"
	"testing"

	"skyfix/api"
	"skyfix/gold"
)

var degrees = []int{5, 6, 7, 9, 10}

// rotated returns a list rotated by k places.
func rotated(l []int, k int) []int {
	return slices.Concat(l[k:], l[:k])
}

// chips returns the chips of bits.
func chips(bits []int) []int {
	l := []int{}
	for _, b := range bits {
		l = append(l, 1-2*b)
	}
	return l
}

// dot returns the sum of the products.
func dot(a, b []int) int {
	s := 0
	for i := range a {
		s += a[i] * b[i]
	}
	return s
}

// P8.1: lengths and taps.
func TestTaps(t *testing.T) {
	want := map[int][2][]int{5: {{0, 2}, {0, 2, 3, 4}}, 6: {{0, 1}, {0, 1, 2, 5}}, 7: {{0, 3}, {0, 1, 2, 3}}, 9: {{0, 4}, {0, 3, 4, 6}}, 10: {{0, 3}, {0, 2, 3, 8}}}
	for d := -1; d < 20; d++ {
		n, e := gold.Length(d)
		if taps, ok := want[d]; ok {
			if n != 1<<d-1 || e != api.OK {
				t.Errorf("Length(%d) = %d, %v", d, n, e)
			}
			for i := range 2 {
				if l, e := gold.Taps(d, i+1); !slices.Equal(l, taps[i]) || e != api.OK {
					t.Errorf("Taps(%d, %d) = %v, %v", d, i+1, l, e)
				}
			}
		} else if n != 0 || e != api.ErrRange {
			t.Errorf("Length(%d) = %d, %v", d, n, e)
		}
		for _, which := range []int{-1, 0, 3, 1 << 62} {
			if l, e := gold.Taps(d, which); l != nil || e != api.ErrRange {
				t.Errorf("Taps(%d, %d) = %v, %v", d, which, l, e)
			}
		}
	}
	l, _ := gold.Taps(5, 1)
	l[0] = 9
	if l, _ := gold.Taps(5, 1); l[0] != 0 {
		t.Error("results share memory")
	}
}

// sequence returns bits by the definition.
func sequence(n int, taps, state []int, many int) []int {
	s := slices.Clone(state)
	for i := 0; len(s) < many; i++ {
		bit := 0
		for _, t := range taps {
			bit += s[i+t]
		}
		s = append(s, bit%2)
	}
	return s[:many]
}

// P8.2: sequences and periods of all registers of few places.
func TestRun(t *testing.T) {
	for n := 2; n <= 6; n++ {
		for mask := 1; mask < 1<<n; mask += 2 {
			var taps []int
			for i := range n {
				if mask>>i&1 == 1 {
					taps = append(taps, i)
				}
			}
			for state := range 1 << n {
				var bits []int
				for i := range n {
					bits = append(bits, state>>i&1)
				}
				want := sequence(n, taps, bits, 200)
				got, e := gold.Run(n, taps, bits, 200)
				if e != api.OK || !slices.Equal(got, want) {
					t.Fatalf("Run(%d, %v, %v) = %v, %v", n, taps, bits, got, e)
				}
				k := 1
				for !slices.Equal(want[k:k+n], bits) {
					k++
				}
				if p, e := gold.Period(n, taps, bits); p != k || e != api.OK {
					t.Fatalf("Period(%d, %v, %v) = %d, %v, want %d", n, taps, bits, p, e, k)
				}
			}
		}
	}
	long, e := gold.Run(16, []int{0, 15}, append([]int{1}, make([]int, 15)...), 100000)
	if len(long) != 100000 || e != api.OK || !slices.Equal(long, sequence(16, []int{0, 15}, append([]int{1}, make([]int, 15)...), 100000)) {
		t.Errorf("Run of 100,000 bits: %d, %v", len(long), e)
	}
	for _, many := range []int{0, 1, 2} {
		if l, e := gold.Run(3, []int{0}, []int{1, 0, 1}, many); len(l) != many || e != api.OK {
			t.Errorf("Run of %d bits: %v, %v", many, l, e)
		}
	}
}

// P8.2: the errors, in their order.
func TestRunErrors(t *testing.T) {
	for i, x := range []struct {
		n           int
		taps, state []int
		many        int
		e           api.Errno
	}{
		{1, nil, nil, -1, api.ErrRange}, {17, nil, nil, -1, api.ErrRange}, {-5, []int{0}, nil, 0, api.ErrRange},
		{2, nil, []int{1, 0}, -1, api.ErrForm}, {2, []int{1}, []int{1, 0}, 0, api.ErrForm}, {2, []int{0, 0}, []int{1, 0}, 0, api.ErrForm}, {2, []int{0, 2}, []int{1, 0}, 0, api.ErrForm},
		{2, []int{0, 1 << 62}, []int{1, 0}, 0, api.ErrForm}, {3, []int{0, 2, 1}, []int{1, 0, 0}, 0, api.ErrForm}, {2, []int{-1, 0}, []int{1, 0}, 0, api.ErrForm},
		{2, []int{0}, []int{1}, -1, api.ErrForm}, {2, []int{0}, []int{1, 0, 0}, 0, api.ErrForm}, {2, []int{0}, []int{1, 2}, 0, api.ErrForm}, {2, []int{0}, []int{-1, 0}, 0, api.ErrForm},
		{2, []int{0}, []int{1, 0}, -1, api.ErrLong}, {2, []int{0}, []int{1, 0}, 100001, api.ErrLong},
	} {
		if l, e := gold.Run(x.n, x.taps, x.state, x.many); l != nil || e != x.e {
			t.Errorf("%d: Run = %v, %v, want %v", i, l, e, x.e)
		}
		want := x.e
		if want == api.ErrLong {
			want = api.OK
		}
		if k, e := gold.Period(x.n, x.taps, x.state); (k == 0) != (want != api.OK) || e != want {
			t.Errorf("%d: Period = %v, %v, want %v", i, k, e, want)
		}
	}
}

// P8.3, P8.5: the sequences of the table.
func TestBits(t *testing.T) {
	for _, d := range degrees {
		n := 1<<d - 1
		for which := 1; which <= 2; which++ {
			taps, _ := gold.Taps(d, which)
			ones := slices.Repeat([]int{1}, d)
			bits, e := gold.Bits(d, which)
			if e != api.OK || !slices.Equal(bits, sequence(d, taps, ones, n)) {
				t.Fatalf("Bits(%d, %d) = %v, %v", d, which, bits, e)
			}
			if p, _ := gold.Period(d, taps, ones); p != n {
				t.Errorf("the period of %d, %d is %d", d, which, p)
			}
			if d <= 7 {
				checkShifts(t, bits)
			}
		}
		if l, e := gold.Bits(d, 3); l != nil || e != api.ErrRange {
			t.Errorf("Bits(%d, 3) = %v, %v", d, l, e)
		}
	}
	if l, e := gold.Bits(8, 1); l != nil || e != api.ErrRange {
		t.Errorf("Bits(8, 1) = %v, %v", l, e)
	}
}

// checkShifts checks that a sequence added to a rotation of its own is another rotation.
func checkShifts(t *testing.T, bits []int) {
	t.Helper()
	twice := slices.Concat(bits, bits)
	for k := 1; k < len(bits); k++ {
		sum := make([]int, len(bits))
		for i := range sum {
			sum[i] = bits[i] ^ twice[i+k]
		}
		found := false
		for j := range bits {
			found = found || slices.Equal(sum, twice[j:j+len(bits)])
		}
		if !found {
			t.Fatalf("the sum of the sequence and its rotation by %d is no rotation", k)
		}
	}
}

// P8.3, P8.6: codes and their sums.
func TestCode(t *testing.T) {
	for _, d := range degrees {
		n := 1<<d - 1
		u, _ := gold.Bits(d, 1)
		v, _ := gold.Bits(d, 2)
		for prn := 1; prn <= n+2; prn++ {
			want := u
			switch {
			case prn == 2:
				want = v
			case prn > 2:
				want = make([]int, n)
				for i := range want {
					want[i] = (u[i] + v[(i+prn-3)%n]) % 2
				}
			}
			c, e := gold.Code(d, prn)
			if e != api.OK || !slices.Equal(c, chips(want)) {
				t.Fatalf("Code(%d, %d) = %v, %v", d, prn, c, e)
			}
			sum := 0
			for _, x := range c {
				sum += x
			}
			if s, e := gold.Sum(d, prn); s != sum || e != api.OK || prn <= 2 && s != -1 {
				t.Fatalf("Sum(%d, %d) = %d, %v, want %d", d, prn, s, e, sum)
			}
		}
		for _, prn := range []int{0, -1, n + 3, 1 << 62} {
			c, e := gold.Code(d, prn)
			s, e2 := gold.Sum(d, prn)
			if c != nil || s != 0 || e != api.ErrRange || e2 != api.ErrRange {
				t.Errorf("Code, Sum(%d, %d): %v, %v", d, prn, e, e2)
			}
		}
	}
	if c, e := gold.Code(8, 1); c != nil || e != api.ErrRange {
		t.Errorf("Code(8, 1) = %v, %v", c, e)
	}
}

// P8.6, P8.7: the products of codes have three values.
func TestProducts(t *testing.T) {
	for _, d := range degrees[:4] {
		n := 1<<d - 1
		bound := 1<<((d+1)/2) + 1
		if d%2 == 0 {
			bound = 1<<((d+2)/2) + 1
		}
		many := n + 2
		if d == 9 {
			many = 4
		}
		for p := 1; p <= many; p += 3 {
			a, _ := gold.Code(d, p)
			for q := p; q <= many; q += 2 {
				b, _ := gold.Code(d, q)
				twice := slices.Concat(b, b)
				for k := range n {
					s := dot(a, twice[k:])
					if p == q && (k == 0 || p <= 2) {
						if want := map[bool]int{true: n, false: -1}[k == 0]; s != want {
							t.Fatalf("the products of %d and itself, by %d, are %d", p, k, s)
						}
					} else if s != -1 && s != -bound && s != bound-2 {
						t.Fatalf("degree %d: the products of %d and %d, by %d, are %d", d, p, q, k, s)
					}
				}
			}
		}
	}
}

// P8.4, P8.8: Find.
func TestFind(t *testing.T) {
	for _, d := range degrees {
		n := 1<<d - 1
		for prn := 1; prn <= n+2; prn += 1 + n/12 {
			c, _ := gold.Code(d, prn)
			for k := 0; k < n; k += 1 + n/9 {
				if p, at, e := gold.Find(d, rotated(c, k)); p != prn || at != k || e != api.OK {
					t.Fatalf("Find(%d, code %d by %d) = %d, %d, %v", d, prn, k, p, at, e)
				}
			}
		}
	}
	for prn := 1; prn <= 33; prn++ {
		c, _ := gold.Code(5, prn)
		for k := range 31 {
			if p, at, _ := gold.Find(5, rotated(c, k)); p != prn || at != k {
				t.Fatalf("Find(5, code %d by %d) = %d, %d", prn, k, p, at)
			}
		}
	}
	ones := slices.Repeat([]int{1}, 31)
	zero := slices.Clone(ones)
	zero[30] = 0
	for i, x := range []struct {
		d int
		l []int
		e api.Errno
	}{{8, nil, api.ErrRange}, {5, nil, api.ErrForm}, {5, ones[1:], api.ErrForm}, {5, append(ones, 1), api.ErrForm}, {5, zero, api.ErrForm}, {5, ones, api.ErrNone}} {
		if p, at, e := gold.Find(x.d, x.l); p != 0 || at != 0 || e != x.e {
			t.Errorf("%d: Find = %d, %d, %v, want %v", i, p, at, e, x.e)
		}
	}
}
