package cross_test

import (
	"math/rand/v2"
	"reflect"
	"slices"
	"testing"

	"skyfix/api"
	"skyfix/cross"
	"skyfix/gold"
)

// parts returns both parts by their definition.
func parts(p, q []int, over, m, s int) (first, second int) {
	n := len(p)
	for i := range m {
		first += p[i/over] * q[min((i-m+n*over+s)/over, n-1)]
	}
	for i := m; i < n*over; i++ {
		second += p[i/over] * q[(i-m)/over]
	}
	return first, second
}

func size(x int) int { return max(x, -x) }

// greatest returns the greatest sum by its definition.
func greatest(p, q []int, over int, misaligned bool) int {
	most, l := 0, len(p)*over
	for s := -1; s <= 1; s++ {
		for m := 0; m <= l+min(s, 0); m++ {
			if misaligned && (m < over || m > l+s-over) {
				continue
			}
			a, b := parts(p, q, over, m, s)
			most = max(most, size(a)+size(b))
		}
	}
	return most
}

func code(degree, prn int) []int {
	c, _ := gold.Code(degree, prn)
	return c
}

// P9.1: samples, and the errors of codes.
func TestSamples(t *testing.T) {
	for over := 1; over <= 8; over++ {
		c := code(6, 9)
		s, e := cross.Samples(6, over, 9)
		if e != api.OK || len(s) != len(c)*over {
			t.Fatalf("Samples: %d, %v", len(s), e)
		}
		for i, x := range s {
			if x != c[i/over] {
				t.Fatalf("the sample %d is %d", i, x)
			}
		}
	}
	for i, x := range [][3]int{{8, 2, 1}, {5, 0, 1}, {5, 9, 1}, {5, -1, 99}, {5, 2, 0}, {5, 2, 34}, {1 << 62, 1, 1}} {
		s, e1 := cross.Samples(x[0], x[1], x[2])
		a, b, e2 := cross.Parts(x[0], x[1], x[2], 1, 0, 0)
		c, d, e3 := cross.Parts(x[0], x[1], 1, x[2], 0, 0)
		side, e4 := cross.Side(x[0], x[1], x[2])
		most, e5 := cross.Cross(x[0], x[1], x[2], 1)
		last, e6 := cross.Cross(x[0], x[1], 1, x[2])
		table, e7 := cross.Table(x[0], x[1], []int{x[2]})
		for _, e := range []api.Errno{e1, e2, e3, e4, e5, e6, e7} {
			if e != api.ErrRange {
				t.Errorf("%d: %v, want ErrRange", i, e)
			}
		}
		if s != nil || table != nil || a+b+c+d+side+most+last != 0 {
			t.Errorf("%d: there is a result beside an error", i)
		}
	}
	for _, x := range [][3]int{{8, 1, 1}, {5, 0, 1}, {5, 1, 34}} {
		if l, e := cross.Spectrum(x[0], x[1], x[2]); l != nil || e != api.ErrRange {
			t.Errorf("Spectrum(%v) = %v, %v", x, l, e)
		}
	}
}

// P9.2, P9.5: circular sums.
func TestCircular(t *testing.T) {
	r := rand.New(rand.NewPCG(9, 1))
	for _, n := range []int{1, 2, 3, 10, 97} {
		a, b := make([]int, n), make([]int, n)
		for i := range n {
			a[i], b[i] = r.IntN(2000001)-1000000, r.IntN(2000001)-1000000
		}
		got, e := cross.Circular(a, b)
		back, e2 := cross.Circular(b, a)
		if e != api.OK || e2 != api.OK || len(got) != n {
			t.Fatal(e, e2)
		}
		sum, sumA, sumB := 0, 0, 0
		for k := range n {
			want := 0
			for i := range n {
				want += a[i] * b[(i+k)%n]
			}
			if got[k] != want || back[(n-k)%n] != want {
				t.Fatalf("the sum %d is %d, backwards %d, want %d", k, got[k], back[(n-k)%n], want)
			}
			sum, sumA, sumB = sum+got[k], sumA+a[k], sumB+b[k]
		}
		if sum != sumA*sumB {
			t.Fatalf("the sums are %d together", sum)
		}
	}
	long := make([]int, 8193)
	for i, x := range []struct {
		a, b []int
		e    api.Errno
	}{
		{nil, nil, api.ErrForm}, {nil, long, api.ErrForm}, {long, nil, api.ErrLong}, {[]int{1 << 40}, nil, api.ErrType}, {[]int{1}, []int{1, 2}, api.ErrType},
		{[]int{1000001}, []int{0}, api.ErrRange}, {[]int{0, 0}, []int{0, -1000001}, api.ErrRange}, {[]int{-1 << 63}, []int{0}, api.ErrRange},
		{long[:8192], long[:8192], api.OK},
	} {
		if l, e := cross.Circular(x.a, x.b); e != x.e || (l == nil) != (e != api.OK) {
			t.Errorf("%d: Circular: %v, want %v", i, e, x.e)
		}
	}
}

// P9.2, P9.6: spectra.
func TestSpectrum(t *testing.T) {
	for _, x := range [][3]int{{5, 1, 1}, {5, 1, 2}, {5, 7, 30}, {6, 3, 3}, {6, 65, 1}, {7, 20, 21}, {9, 500, 2}, {10, 1025, 1025}} {
		a, b := code(x[0], x[1]), code(x[0], x[2])
		count := map[int]int{}
		sums, _ := cross.Circular(a, b)
		for _, s := range sums {
			count[s]++
		}
		var want [][2]int
		for s, n := range count {
			want = append(want, [2]int{s, n})
		}
		slices.SortFunc(want, func(x, y [2]int) int { return x[0] - y[0] })
		got, e := cross.Spectrum(x[0], x[1], x[2])
		if e != api.OK || !reflect.DeepEqual(got, want) {
			t.Errorf("Spectrum(%v) = %v, %v, want %v", x, got, e, want)
		}
		if len(got) > 4 || x[1] == x[2] && got[len(got)-1] != [2]int{len(a), 1} {
			t.Errorf("Spectrum(%v) = %v", x, got)
		}
	}
}

// P9.3, P9.8: parts for all placements.
func TestParts(t *testing.T) {
	for over := 1; over <= 8; over++ {
		for _, x := range [][2]int{{1, 1}, {1, 2}, {20, 33}} {
			p, q := code(5, x[0]), code(5, x[1])
			l := len(p) * over
			for s := -2; s <= 2; s++ {
				for m := -1; m <= l+1; m++ {
					first, second, e := cross.Parts(5, over, x[0], x[1], m, s)
					if s < -1 || s > 1 || m < 0 || m > l || s == -1 && m == l {
						if first != 0 || second != 0 || e != api.ErrRange {
							t.Fatalf("Parts(.., %d, %d) = %d, %d, %v", m, s, first, second, e)
						}
						continue
					}
					a, b := parts(p, q, over, m, s)
					if first != a || second != b || e != api.OK {
						t.Fatalf("Parts(5, %d, %v, %d, %d) = %d, %d, %v, want %d, %d", over, x, m, s, first, second, e, a, b)
					}
				}
			}
		}
	}
	for _, m := range []int{1 << 62, -1 << 63} {
		if _, _, e := cross.Parts(5, 1, 1, 1, m, 0); e != api.ErrRange {
			t.Errorf("Parts(.., %d, 0): %v", m, e)
		}
	}
}

// P9.3, P9.8: Side and Cross.
func TestGreatest(t *testing.T) {
	for _, x := range [][4]int{{5, 1, 1, 2}, {5, 2, 1, 1}, {5, 3, 17, 33}, {5, 8, 3, 4}, {6, 2, 1, 30}, {7, 1, 5, 5}, {7, 2, 129, 1}} {
		p, q := code(x[0], x[2]), code(x[0], x[3])
		if s, e := cross.Side(x[0], x[1], x[2]); e != api.OK || s != greatest(p, p, x[1], true) {
			t.Errorf("Side(%v) = %d, %v, want %d", x, s, e, greatest(p, p, x[1], true))
		}
		c, e := cross.Cross(x[0], x[1], x[2], x[3])
		if e != api.OK || c != greatest(p, q, x[1], false) {
			t.Errorf("Cross(%v) = %d, %v, want %d", x, c, e, greatest(p, q, x[1], false))
		}
		if x[2] == x[3] && c != len(p)*x[1] {
			t.Errorf("Cross of a code and itself is %d", c)
		}
	}
}

// P9.7: the bounds hold for signals whose periods drift, and have signs of their own.
func TestBound(t *testing.T) {
	r := rand.New(rand.NewPCG(9, 2))
	for range 300 {
		over := 1 + r.IntN(4)
		p, q := 1+r.IntN(33), 1+r.IntN(33)
		a, b := code(5, p), code(5, q)
		l := len(a) * over
		var signal, starts []int
		for range 4 {
			sign := 1 - 2*r.IntN(2)
			starts = append(starts, len(signal))
			for i := range l - 1 + r.IntN(3) {
				signal = append(signal, sign*b[min(i/over, len(b)-1)])
			}
		}
		limit, _ := cross.Cross(5, over, p, q)
		side, _ := cross.Side(5, over, p)
		for at := range 2*l - 4 {
			sum, near := 0, false
			for i := range l {
				sum += a[i/over] * signal[at+i]
			}
			for _, s := range starts {
				near = near || size(s-at) < over
			}
			if size(sum) > limit || p == q && !near && size(sum) > side {
				t.Fatalf("codes %d, %d, over %d: the sum at %d is %d", p, q, over, at, sum)
			}
		}
	}
}

// P9.4: Table.
func TestTable(t *testing.T) {
	prns := []int{4, 33, 1}
	got, e := cross.Table(5, 2, prns)
	if e != api.OK || len(got) != 3 {
		t.Fatal(e)
	}
	for i, p := range prns {
		for k, q := range prns {
			want, _ := cross.Cross(5, 2, p, q)
			if i == k {
				want, _ = cross.Side(5, 2, p)
			}
			if got[i][k] != want {
				t.Errorf("Table: %d and %d have %d, want %d", p, q, got[i][k], want)
			}
		}
	}
	for i, x := range []struct {
		degree, over int
		l            []int
		e            api.Errno
	}{
		{8, 2, nil, api.ErrRange}, {5, 0, nil, api.ErrRange}, {5, 2, nil, api.ErrForm}, {5, 2, make([]int, 9), api.ErrLong},
		{5, 2, []int{1, 2, 1, 0}, api.ErrDouble}, {5, 2, []int{1, 34, 1}, api.ErrRange}, {5, 2, []int{0, 0}, api.ErrRange}, {5, 2, []int{1, 2, 3, 4, 5, 6, 7, 8}, api.OK},
	} {
		if table, e := cross.Table(x.degree, x.over, x.l); e != x.e || (table == nil) != (e != api.OK) {
			t.Errorf("%d: Table: %v, want %v", i, e, x.e)
		}
	}
}

// TestGreatTable takes the longest codes.
func TestGreatTable(t *testing.T) {
	table, e := cross.Table(10, 8, []int{1, 2, 3, 100, 200, 300, 1000, 1025})
	if e != api.OK || len(table) != 8 {
		t.Fatal(e)
	}
	if want := 1023 * 8; table[0][0] >= want || table[0][1] >= want {
		t.Errorf("Table = %v", table[0])
	}
}
