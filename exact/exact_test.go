package exact_test

import (
	"math/big"
	"math/rand/v2"
	"testing"

	"skyfix/api"
	"skyfix/exact"
)

// of returns n as an Int, by way of its limbs.
func of(n *big.Int) exact.Int {
	var l api.Nat
	for x := new(big.Int).Abs(n); x.Sign() > 0; x.Rsh(x, 32) {
		l = append(l, uint32(new(big.Int).And(x, big.NewInt(1<<32-1)).Uint64()))
	}
	if n.Sign() < 0 {
		return exact.OfNat(l).Neg()
	}
	return exact.OfNat(l)
}

func value(a exact.Int) *big.Int {
	n := new(big.Int)
	l := a.Nat()
	for i := len(l) - 1; i >= 0; i-- {
		n.Lsh(n, 32).Add(n, big.NewInt(int64(l[i])))
	}
	if a.Sign() < 0 {
		n.Neg(n)
	}
	return n
}

// numbers returns integers of all sizes, some with long runs of equal bits.
func numbers() []*big.Int {
	r := rand.New(rand.NewPCG(4, 1))
	l := []*big.Int{new(big.Int), big.NewInt(1), big.NewInt(-1), big.NewInt(1<<63 - 1), big.NewInt(-1 << 63), new(big.Int).Lsh(big.NewInt(1), 63), new(big.Int).Lsh(big.NewInt(1), 64), new(big.Int).Lsh(big.NewInt(-1), 128)}
	for range 60 {
		n := new(big.Int)
		for range 1 + r.IntN(1<<r.IntN(8)) {
			word := r.Uint64()
			if r.IntN(3) == 0 {
				word = -uint64(r.IntN(2))
			}
			n.Lsh(n, 64).Add(n, new(big.Int).SetUint64(word))
		}
		n.Rsh(n, uint(r.IntN(63)))
		if r.IntN(2) == 0 {
			n.Neg(n)
		}
		l = append(l, n)
	}
	return l
}

func same(t *testing.T, name string, got exact.Int, want *big.Int) {
	t.Helper()
	if value(got).Cmp(want) != 0 || got.Sign() != want.Sign() {
		t.Fatalf("%s = %v, want %v", name, value(got), want)
	}
}

func TestArithmetic(t *testing.T) {
	for _, x := range numbers() {
		a := of(x)
		same(t, "of", a, x)
		same(t, "Neg", a.Neg(), new(big.Int).Neg(x))
		same(t, "Abs", a.Abs(), new(big.Int).Abs(x))
		if n, ok := a.Int(); ok != x.IsInt64() || ok && (int64(n) != x.Int64() || exact.Of(n).Cmp(a) != 0) || !ok && n != 0 {
			t.Fatalf("Int(%v) = %d, %v", x, n, ok)
		}
		if a.Words() != (x.BitLen()+63)/64 {
			t.Fatalf("Words(%v) = %d", x, a.Words())
		}
		for _, y := range numbers() {
			b := of(y)
			same(t, "Add", a.Add(b), new(big.Int).Add(x, y))
			same(t, "Sub", a.Sub(b), new(big.Int).Sub(x, y))
			same(t, "Mul", a.Mul(b), new(big.Int).Mul(x, y))
			same(t, "Gcd", exact.Gcd(a, b), new(big.Int).GCD(nil, nil, new(big.Int).Abs(x), new(big.Int).Abs(y)))
			if a.Cmp(b) != x.Cmp(y) {
				t.Fatalf("Cmp(%v, %v) = %d", x, y, a.Cmp(b))
			}
			if y.Sign() != 0 {
				same(t, "Over", a.Mul(b).Over(b), x)
			}
		}
	}
}

// half returns n/d rounded half away from 0.
func half(n, d *big.Int) *big.Int {
	q := new(big.Int).Abs(n)
	q.Lsh(q, 1).Add(q, d).Quo(q, new(big.Int).Lsh(d, 1))
	if n.Sign() < 0 {
		q.Neg(q)
	}
	return q
}

func TestRounding(t *testing.T) {
	for _, x := range numbers() {
		for _, y := range numbers() {
			if y.Sign() <= 0 {
				continue
			}
			floor := new(big.Int).Div(x, y)
			ceil := new(big.Int).Neg(new(big.Int).Div(new(big.Int).Neg(x), y))
			same(t, "Floor", of(x).Floor(of(y)), floor)
			same(t, "Ceil", of(x).Ceil(of(y)), ceil)
			same(t, "Round", of(x).Round(of(y)), half(x, y))
		}
	}
	for _, x := range [][3]int64{{5, 2, 3}, {-5, 2, -3}, {1, 2, 1}, {-1, 2, -1}, {1, 3, 0}, {-2, 3, -1}, {0, 5, 0}} {
		same(t, "Round", of(big.NewInt(x[0])).Round(of(big.NewInt(x[1]))), big.NewInt(x[2]))
	}
}

// TestLongFactors takes numbers with great common factors, for which Lehmer's steps go a long way.
func TestLongFactors(t *testing.T) {
	l := numbers()
	for i, x := range l {
		for j := range 10 {
			y, z := l[(i+j)%len(l)], l[(i*7+j)%len(l)]
			p, q := new(big.Int).Mul(x, y), new(big.Int).Mul(x, z)
			want := new(big.Int).GCD(nil, nil, new(big.Int).Abs(p), new(big.Int).Abs(q))
			same(t, "Gcd", exact.Gcd(of(p), of(q)), want)
		}
	}
	// Neighbours in the sequence of Fibonacci need the most steps.
	x, y := big.NewInt(1), big.NewInt(1)
	for range 3000 {
		x, y = y, new(big.Int).Add(x, y)
	}
	same(t, "Gcd", exact.Gcd(of(x), of(y)), big.NewInt(1))
}

func TestRats(t *testing.T) {
	for _, x := range numbers() {
		for _, y := range numbers() {
			if y.Sign() == 0 {
				continue
			}
			want := new(big.Rat).SetFrac(x, y)
			got, e := exact.Rat(of(x), of(y))
			if max(want.Num().BitLen(), want.Denom().BitLen()) > 8192 {
				if e != api.ErrOver {
					t.Fatalf("Rat(%v, %v): %v", x, y, e)
				}
				continue
			}
			num, den := exact.OfRat(got)
			if e != api.OK {
				t.Fatalf("Rat(%v, %v): %v", x, y, e)
			}
			same(t, "Num", num, want.Num())
			same(t, "Den", den, want.Denom())
		}
	}
	great, _ := exact.Rat(of(new(big.Int).Lsh(big.NewInt(1), 8191)), exact.Of(3))
	small, _ := exact.Rat(exact.Of(-3), exact.Of(4))
	nums, den := exact.Common([]api.Rat{great, small})
	same(t, "Common", den, big.NewInt(12))
	same(t, "Common", nums[1], big.NewInt(-9))
	if l, e := exact.Rats(nums, den); e != api.OK || len(l) != 2 {
		t.Errorf("Rats = %v, %v", l, e)
	}
	if l, e := exact.Rats([]exact.Int{exact.Of(1), nums[0].Mul(nums[0])}, den); e != api.ErrOver || l != nil {
		t.Errorf("Rats = %v, %v, want ErrOver", l, e)
	}
}
