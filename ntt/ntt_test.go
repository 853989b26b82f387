package ntt_test

import (
	"math/rand/v2"
	"slices"
	"testing"

	"skyfix/api"
	"skyfix/cross"
	"skyfix/ntt"
)

const (
	prime = 998244353
	half  = 499122176
)

// power returns a^n by single multiplications.
func power(a, n int) int {
	p := 1
	for range n {
		p = p * a % prime
	}
	return p
}

// random returns n numbers from low to high.
func random(r *rand.Rand, n, low, high int) []int {
	l := make([]int, n)
	for i := range l {
		l[i] = low + r.IntN(high-low+1)
	}
	return l
}

// P10.1: roots, powers and signs.
func TestRoot(t *testing.T) {
	for n := -3; n < 70000; n++ {
		w, e := ntt.Root(n)
		if n < 1 || n > 32768 || n&(n-1) != 0 {
			if w != 0 || e != api.ErrForm {
				t.Fatalf("Root(%d) = %d, %v", n, w, e)
			}
			continue
		}
		if e != api.OK || power(w, n) != 1 || n > 1 && power(w, n/2) != prime-1 {
			t.Fatalf("Root(%d) = %d, %v", n, w, e)
		}
	}
	for n, want := range map[int]int{1: 1, 2: 998244352, 4: 911660635} {
		if w, _ := ntt.Root(n); w != want {
			t.Errorf("Root(%d) = %d", n, w)
		}
	}
	if w, _ := ntt.Root(32768); func() int { p, _ := ntt.Power(3, (prime-1)/32768); return p }() != w {
		t.Error("Root(32768) is no power of 3")
	}
}

func TestPower(t *testing.T) {
	for _, a := range []int{0, 1, 2, 3, 12345, prime - 1, prime - 2} {
		for n := range 70 {
			if p, e := ntt.Power(a, n); p != power(a, n) || e != api.OK {
				t.Fatalf("Power(%d, %d) = %d, %v", a, n, p, e)
			}
		}
		if p, e := ntt.Power(a, prime-1); a != 0 && p != 1 || a == 0 && p != 0 || e != api.OK {
			t.Errorf("Power(%d, P-1) = %d, %v", a, p, e)
		}
		if p, e := ntt.Power(a, -1); p != 0 || e != api.ErrRange {
			t.Errorf("Power(%d, -1) = %d, %v", a, p, e)
		}
	}
	p, _ := ntt.Power(3, 1<<63-1)
	q, _ := ntt.Power(3, (1<<63-1)%(prime-1))
	if p != q {
		t.Errorf("Power(3, 2^63-1) = %d, want %d", p, q)
	}
	for _, a := range []int{-1, prime, 1 << 62, -1 << 63} {
		if p, e := ntt.Power(a, 1); p != 0 || e != api.ErrRange {
			t.Errorf("Power(%d, 1) = %d, %v", a, p, e)
		}
		if x, e := ntt.Signed(a); x != 0 || e != api.ErrRange {
			t.Errorf("Signed(%d) = %d, %v", a, x, e)
		}
	}
	for x, want := range map[int]int{0: 0, 5: 5, half: half, half + 1: -half, prime - 1: -1} {
		if n, e := ntt.Signed(x); n != want || e != api.OK {
			t.Errorf("Signed(%d) = %d, %v", x, n, e)
		}
	}
}

// P10.2, P10.5: transforms, by their definition.
func TestTransform(t *testing.T) {
	r := rand.New(rand.NewPCG(10, 1))
	for n := 1; n <= 64; n *= 2 {
		w, _ := ntt.Root(n)
		l := random(r, n, 0, prime-1)
		before := slices.Clone(l)
		got, e := ntt.Transform(l)
		if e != api.OK || len(got) != n || !slices.Equal(l, before) {
			t.Fatal(e)
		}
		for k := range n {
			want := 0
			for i, x := range l {
				want = (want + x*power(w, i*k%n)) % prime
			}
			if got[k] != want {
				t.Fatalf("the element %d of %d is %d, want %d", k, n, got[k], want)
			}
		}
		rotated, _ := ntt.Transform(slices.Concat(l[n-1:], l[:n-1]))
		for k := range n {
			if rotated[k] != got[k]*power(w, k)%prime {
				t.Fatalf("the rotated list has %d at %d", rotated[k], k)
			}
		}
	}
	for n := 1; n <= 32768; n *= 2 {
		l, m := random(r, n, 0, prime-1), random(r, n, 0, prime-1)
		a, _ := ntt.Transform(l)
		b, _ := ntt.Transform(m)
		sum := make([]int, n)
		for i := range sum {
			sum[i] = (l[i] + m[i]) % prime
		}
		c, _ := ntt.Transform(sum)
		for i := range c {
			if c[i] != (a[i]+b[i])%prime {
				t.Fatal("the transform is not linear")
			}
		}
		back, e := ntt.Inverse(a)
		if e != api.OK || !slices.Equal(back, l) {
			t.Fatalf("Inverse of %d elements is wrong: %v", n, e)
		}
		there, _ := ntt.Inverse(l)
		if again, _ := ntt.Transform(there); !slices.Equal(again, l) {
			t.Fatalf("Transform of Inverse of %d elements is wrong", n)
		}
	}
}

// P10.2: the errors.
func TestTransformErrors(t *testing.T) {
	for i, x := range []struct {
		l []int
		e api.Errno
	}{{nil, api.ErrForm}, {[]int{1, 2, -3}, api.ErrForm}, {make([]int, 65536), api.ErrForm}, {[]int{prime}, api.ErrRange}, {[]int{0, -1}, api.ErrRange}} {
		a, e1 := ntt.Transform(x.l)
		b, e2 := ntt.Inverse(x.l)
		if a != nil || b != nil || e1 != x.e || e2 != x.e {
			t.Errorf("%d: %v, %v, want %v", i, e1, e2, x.e)
		}
	}
}

// P10.6: products of transforms are transforms of convolutions.
func TestConvolution(t *testing.T) {
	r := rand.New(rand.NewPCG(10, 2))
	const n = 32
	a, b := random(r, n, 0, prime-1), random(r, n, 0, prime-1)
	c := make([]int, n)
	for i, x := range a {
		for j, y := range b {
			c[(i+j)%n] = (c[(i+j)%n] + x*y) % prime
		}
	}
	ta, _ := ntt.Transform(a)
	tb, _ := ntt.Transform(b)
	tc, _ := ntt.Transform(c)
	for k := range n {
		if tc[k] != ta[k]*tb[k]%prime {
			t.Fatalf("the element %d is %d", k, tc[k])
		}
	}
}

// P10.3, P10.7: products, by their definition.
func TestProduct(t *testing.T) {
	r := rand.New(rand.NewPCG(10, 3))
	for range 60 {
		m, n := 1+r.IntN(80), 1+r.IntN(80)
		a, b := random(r, m, -1000, 1000), random(r, n, -5000, 5000)
		want := make([]int, m+n-1)
		sumA, sumB, sum := 0, 0, 0
		for i, x := range a {
			for j, y := range b {
				want[i+j] += x * y
			}
			sumA += x
		}
		for _, y := range b {
			sumB += y
		}
		got, e := ntt.Product(a, b)
		back, e2 := ntt.Product(b, a)
		if e != api.OK || e2 != api.OK || !slices.Equal(got, want) || !slices.Equal(back, want) {
			t.Fatalf("Product = %v, %v", got, e)
		}
		for _, x := range got {
			sum += x
		}
		if sum != sumA*sumB {
			t.Fatalf("the elements are %d together", sum)
		}
	}
	long, e := ntt.Product(slices.Repeat([]int{1}, 16384), slices.Repeat([]int{-3}, 16385))
	if e != api.OK || len(long) != 32768 || long[0] != -3 || long[16383] != -3*16384 || long[32767] != -3 {
		t.Errorf("Product of long lists: %d, %v", len(long), e)
	}
}

// P10.3: the errors, in their order.
func TestProductErrors(t *testing.T) {
	long := make([]int, 32768)
	for i, x := range []struct {
		a, b []int
		e    api.Errno
	}{
		{nil, long, api.ErrForm}, {[]int{1}, nil, api.ErrForm}, {[]int{1 << 40, 2}, long, api.ErrLong}, {long, []int{1}, api.OK},
		{[]int{1000001}, []int{0}, api.ErrRange}, {[]int{0}, []int{-1000001}, api.ErrRange}, {[]int{-1 << 63}, []int{0}, api.ErrRange},
		{[]int{1000000}, []int{1000000}, api.ErrOver}, {[]int{500, -499}, []int{-1000000}, api.ErrOver}, {[]int{1, -498}, []int{0, -1000000}, api.OK},
		{[]int{249561, -249561}, []int{1000, 1}, api.OK}, {[]int{499122, 1}, []int{1000}, api.ErrOver}, {[]int{-499122}, []int{1000}, api.OK}, {[]int{0}, []int{1000000}, api.OK},
	} {
		if l, e := ntt.Product(x.a, x.b); e != x.e || (l == nil) != (e != api.OK) {
			t.Errorf("%d: Product: %v, want %v", i, e, x.e)
		}
	}
}

// P10.4, P10.7: circular sums are those of package cross.
func TestCircular(t *testing.T) {
	r := rand.New(rand.NewPCG(10, 4))
	for _, n := range []int{1, 2, 31, 63, 64, 65, 66, 100, 128, 511, 1000, 8184, 8192} {
		a, b := random(r, n, -1, 1), random(r, n, -60000, 60000)
		want, _ := cross.Circular(a, b)
		if got, e := ntt.Circular(a, b); e != api.OK || !slices.Equal(got, want) {
			t.Fatalf("Circular of %d elements is wrong: %v", n, e)
		}
	}
	long := make([]int, 8193)
	for i, x := range []struct {
		a, b []int
		e    api.Errno
	}{
		{nil, nil, api.ErrForm}, {nil, long, api.ErrForm}, {long, nil, api.ErrLong}, {long, long, api.ErrLong}, {[]int{1 << 40}, nil, api.ErrType}, {[]int{1}, []int{1, 2}, api.ErrType},
		{[]int{1000001}, []int{0}, api.ErrRange}, {[]int{0, 0}, []int{0, -1000001}, api.ErrRange}, {long[:8192], long[:8192], api.OK},
		{[]int{500, 0}, []int{1000000, 0}, api.ErrOver}, {[]int{499, 0}, []int{1000000, 0}, api.OK}, {slices.Repeat([]int{1000}, 100), slices.Repeat([]int{5000}, 100), api.ErrOver},
	} {
		if l, e := ntt.Circular(x.a, x.b); e != x.e || (l == nil) != (e != api.OK) {
			t.Errorf("%d: Circular: %v, want %v", i, e, x.e)
		}
	}
}
