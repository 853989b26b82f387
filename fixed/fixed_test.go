package fixed_test

import (
	"math/big"
	"math/rand/v2"
	"testing"

	"skyfix/api"
	"skyfix/fixed"
)

const (
	top    = 1<<63 - 1
	bottom = -1 << 63
)

// samples returns ints of all sizes, the extreme ones first.
func samples() []int {
	l := []int{0, 1, -1, 2, -2, 3, -3, 5, -5, top, top - 1, bottom, bottom + 1, 1 << 62, -1 << 62, 1 << 32, -1 << 32, 1<<32 - 1}
	r := rand.New(rand.NewPCG(1, 1))
	for len(l) < 70 {
		x := int(r.Uint64()) >> r.IntN(64)
		l = append(l, x)
	}
	return l
}

func num(a int) *big.Int { return big.NewInt(int64(a)) }

// rounded returns n/d as an int, rounded half away from zero and saturated.
func rounded(n, d *big.Int) int {
	twice := new(big.Int).Abs(n)
	size := new(big.Int).Abs(d)
	twice.Lsh(twice, 1).Add(twice, size)
	q := new(big.Int).Quo(twice, new(big.Int).Lsh(size, 1))
	if n.Sign()*d.Sign() < 0 {
		q.Neg(q)
	}
	switch {
	case q.IsInt64():
		return int(q.Int64())
	case q.Sign() < 0:
		return bottom
	}
	return top
}

// power returns 2^n.
func power(n int) *big.Int { return new(big.Int).Lsh(num(1), uint(n)) }

func wide(w api.Wide) *big.Int {
	z := new(big.Int).Lsh(num(w.Hi), 64)
	return z.Add(z, new(big.Int).SetUint64(w.Lo))
}

func check(t *testing.T, name string, got int, e api.Errno, want int) {
	t.Helper()
	if e != api.OK || got != want {
		t.Fatalf("%s = %d, %v, want %d", name, got, e, want)
	}
}

// P1.1: saturated sums, differences and negatives.
func TestSums(t *testing.T) {
	for _, a := range samples() {
		check(t, "Neg", fixed.Neg(a), api.OK, rounded(new(big.Int).Neg(num(a)), num(1)))
		for _, b := range samples() {
			check(t, "Add", fixed.Add(a, b), api.OK, rounded(new(big.Int).Add(num(a), num(b)), num(1)))
			check(t, "Sub", fixed.Sub(a, b), api.OK, rounded(new(big.Int).Sub(num(a), num(b)), num(1)))
		}
	}
}

// P1.1: Clamp, and its error.
func TestClamp(t *testing.T) {
	for _, x := range []struct {
		a, lo, hi, want int
		e               api.Errno
	}{
		{5, 6, 7, 6, api.OK}, {9, 6, 7, 7, api.OK}, {6, 6, 7, 6, api.OK}, {7, 6, 7, 7, api.OK},
		{0, bottom, top, 0, api.OK}, {bottom, top, top, top, api.OK}, {3, 3, 3, 3, api.OK},
		{5, 7, 6, 0, api.ErrRange}, {5, top, bottom, 0, api.ErrRange},
	} {
		if n, e := fixed.Clamp(x.a, x.lo, x.hi); n != x.want || e != x.e {
			t.Errorf("Clamp(%d, %d, %d) = %d, %v", x.a, x.lo, x.hi, n, e)
		}
	}
}

// P1.1: Shift, for any n.
func TestShift(t *testing.T) {
	for _, a := range samples() {
		for n := -130; n <= 130; n++ {
			want := 0
			if n < 0 {
				want = rounded(num(a), power(-n))
			} else {
				want = rounded(new(big.Int).Mul(num(a), power(n)), num(1))
			}
			check(t, "Shift", fixed.Shift(a, n), api.OK, want)
		}
		far := 0
		if a != 0 {
			far = fixed.Shift(a, 100)
		}
		check(t, "Shift up", fixed.Shift(a, top), api.OK, far)
		check(t, "Shift down", fixed.Shift(a, bottom), api.OK, 0)
	}
}

// P1.2, P1.4: products and quotients are rounded once, from the exact value.
func TestProducts(t *testing.T) {
	for _, a := range samples() {
		for _, b := range samples() {
			product := new(big.Int).Mul(num(a), num(b))
			for _, n := range []int{0, 1, 2, 31, 62, 63, 64, 65, 100, 125, 126} {
				got, e := fixed.Mul(a, b, n)
				check(t, "Mul", got, e, rounded(product, power(n)))
			}
			if b != 0 {
				for _, n := range []int{0, 1, 31, 61, 62} {
					got, e := fixed.Div(a, b, n)
					check(t, "Div", got, e, rounded(new(big.Int).Mul(num(a), power(n)), num(b)))
				}
			}
			for _, c := range samples()[:25] {
				if c != 0 {
					got, e := fixed.Ratio(a, b, c)
					check(t, "Ratio", got, e, rounded(product, num(c)))
				}
			}
		}
	}
}

// P1.2: the errors, in their order.
func TestProductErrors(t *testing.T) {
	for _, n := range []int{-1, 127, top, bottom} {
		if x, e := fixed.Mul(1, 1, n); x != 0 || e != api.ErrRange {
			t.Errorf("Mul(1, 1, %d) = %d, %v", n, x, e)
		}
	}
	for _, n := range []int{-1, 63, top, bottom} {
		for _, b := range []int{0, 1} {
			if x, e := fixed.Div(1, b, n); x != 0 || e != api.ErrRange {
				t.Errorf("Div(1, %d, %d) = %d, %v", b, n, x, e)
			}
		}
	}
	if x, e := fixed.Div(1, 0, 62); x != 0 || e != api.ErrZero {
		t.Errorf("Div(1, 0, 62) = %d, %v", x, e)
	}
	if x, e := fixed.Ratio(1, 1, 0); x != 0 || e != api.ErrZero {
		t.Errorf("Ratio(1, 1, 0) = %d, %v", x, e)
	}
}

// P1.5: the functions are monotonic in a.
func TestMonotonic(t *testing.T) {
	l := samples()
	for _, a := range l {
		for _, b := range l {
			if a >= b {
				continue
			}
			if fixed.Neg(a) < fixed.Neg(b) {
				t.Fatalf("Neg(%d) < Neg(%d)", a, b)
			}
			for _, c := range l {
				if fixed.Add(a, c) > fixed.Add(b, c) || fixed.Sub(a, c) > fixed.Sub(b, c) || fixed.Shift(a, c%70) > fixed.Shift(b, c%70) {
					t.Fatalf("a sum or a shift falls from %d to %d, by %d", a, b, c)
				}
				if c <= 0 {
					continue
				}
				x, _ := fixed.Mul(a, c, 40)
				y, _ := fixed.Mul(b, c, 40)
				p, _ := fixed.Div(a, c, 40)
				q, _ := fixed.Div(b, c, 40)
				if x > y || p > q {
					t.Fatalf("a product or a quotient falls from %d to %d, by %d", a, b, c)
				}
			}
		}
	}
}

// wides returns wide numbers of all sizes.
func wides() []api.Wide {
	l := []api.Wide{{}, {Lo: 1}, {Hi: -1, Lo: 1<<64 - 1}, {Hi: top, Lo: 1<<64 - 1}, {Hi: bottom}, {Lo: 1 << 63}, {Lo: top}, {Hi: -1, Lo: 1 << 63}, {Hi: -1, Lo: top}, {Hi: -1}, {Hi: 1}}
	r := rand.New(rand.NewPCG(1, 2))
	for range 60 {
		l = append(l, api.Wide{Hi: int(r.Uint64()) >> r.IntN(64), Lo: r.Uint64() >> r.IntN(64)})
	}
	return l
}

// fits reports whether n is a wide number.
func fits(n *big.Int) bool {
	return n.Cmp(new(big.Int).Neg(power(127))) >= 0 && n.Cmp(power(127)) < 0
}

// P1.3, P1.6: wide numbers.
func TestWide(t *testing.T) {
	for _, a := range wides() {
		n, e := fixed.Narrow(a)
		if exact := wide(a); exact.IsInt64() != (e == api.OK) || exact.IsInt64() && int(exact.Int64()) != n || e != api.OK && (n != 0 || e != api.ErrOver) {
			t.Errorf("Narrow(%v) = %d, %v", a, n, e)
		}
		for _, b := range wides() {
			sum, e := fixed.Plus(a, b)
			checkWide(t, "Plus", sum, e, new(big.Int).Add(wide(a), wide(b)))
			less, e := fixed.Minus(a, b)
			exact := new(big.Int).Sub(wide(a), wide(b))
			checkWide(t, "Minus", less, e, exact)
			if fixed.Cmp(a, b) != exact.Sign() {
				t.Errorf("Cmp(%v, %v) = %d", a, b, fixed.Cmp(a, b))
			}
		}
	}
	for _, a := range samples() {
		for _, b := range samples() {
			checkWide(t, "Prod", fixed.Prod(a, b), api.OK, new(big.Int).Mul(num(a), num(b)))
		}
	}
}

func checkWide(t *testing.T, name string, got api.Wide, e api.Errno, want *big.Int) {
	t.Helper()
	if !fits(want) {
		if e != api.ErrOver || got != (api.Wide{}) {
			t.Fatalf("%s = %v, %v, want ErrOver", name, got, e)
		}
		return
	}
	if e != api.OK || wide(got).Cmp(want) != 0 {
		t.Fatalf("%s = %v, %v, want %v", name, got, e, want)
	}
}

// P1.3: Norm.
func TestNorm(t *testing.T) {
	for _, x := range samples() {
		for _, y := range samples()[:20] {
			for _, z := range []int{0, 7, top, bottom, x} {
				want := new(big.Int)
				for _, c := range []int{x, y, z} {
					want.Add(want, new(big.Int).Mul(num(c), num(c)))
				}
				got, e := fixed.Norm(api.Point{X: x, Y: y, Z: z})
				checkWide(t, "Norm", got, e, want)
			}
		}
	}
}
