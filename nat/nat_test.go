package nat_test

import (
	"math/big"
	"math/rand/v2"
	"slices"
	"strings"
	"testing"

	"skyfix/api"
	"skyfix/nat"
)

// of returns a number that is not negative as a Nat.
func of(n *big.Int) api.Nat {
	var l api.Nat
	for n = new(big.Int).Set(n); n.Sign() > 0; n.Rsh(n, 32) {
		l = append(l, uint32(new(big.Int).And(n, big.NewInt(1<<32-1)).Uint64()))
	}
	return l
}

func exact(l api.Nat) *big.Int {
	n := new(big.Int)
	for _, x := range slices.Backward(l) {
		n.Lsh(n, 32).Add(n, big.NewInt(int64(x)))
	}
	return n
}

func power(n uint) *big.Int { return new(big.Int).Lsh(big.NewInt(1), n) }

func less(n *big.Int) *big.Int { return new(big.Int).Sub(n, big.NewInt(1)) }

// numbers returns numbers of all sizes, some of them with long runs of equal bits.
func numbers() []api.Nat {
	r := rand.New(rand.NewPCG(3, 1))
	l := []api.Nat{nil, {}, {1}, {2}, {7}, {10}, {1<<32 - 1}, {0, 1}, {0, 0, 1}, {1 << 31}, {0, 1 << 31}, {0, 1<<31 - 1}, of(less(power(8192))), of(power(8191)), of(power(4096)), of(less(power(4096))), of(power(4095))}
	for range 40 {
		n := make(api.Nat, 1+r.IntN(1<<r.IntN(9)))
		for i := range n {
			n[i] = r.Uint32()
			if r.IntN(3) == 0 {
				n[i] = -uint32(r.IntN(2))
			}
		}
		n[len(n)-1] |= 1 << r.IntN(32)
		l = append(l, n)
	}
	return l
}

// invalid returns a number for each error of Check.
func invalid() map[api.Errno]api.Nat {
	long := make(api.Nat, api.MaxLimbs+1)
	return map[api.Errno]api.Nat{api.ErrLong: long, api.ErrForm: {5, 0}}
}

func check(t *testing.T, name string, got api.Nat, e api.Errno, want *big.Int) {
	t.Helper()
	if want.BitLen() > 8192 {
		if e != api.ErrOver || len(got) != 0 {
			t.Fatalf("%s: %v, %v, want ErrOver", name, got, e)
		}
		return
	}
	if e != api.OK || !slices.Equal(got, of(want)) {
		t.Fatalf("%s = %v, %v, want %v", name, got, e, of(want))
	}
}

// P3.1: Check, Of, Int, Bits and Cmp.
func TestConversions(t *testing.T) {
	for want, n := range map[api.Errno]api.Nat{api.ErrLong: make(api.Nat, 257), api.ErrForm: make(api.Nat, 256), api.OK: of(less(power(8192)))} {
		if e := nat.Check(n); e != want {
			t.Errorf("Check = %v, want %v", e, want)
		}
	}
	if nat.Check(nil) != api.OK || nat.Check(api.Nat{0}) != api.ErrForm {
		t.Error("Check of 0 is wrong")
	}
	for _, a := range []int{0, 1, 5, 1 << 32, 1<<32 - 1, 1<<63 - 1} {
		n, e := nat.Of(a)
		check(t, "Of", n, e, big.NewInt(int64(a)))
	}
	for _, a := range []int{-1, -1 << 63} {
		if n, e := nat.Of(a); len(n) != 0 || e != api.ErrRange {
			t.Errorf("Of(%d) = %v, %v", a, n, e)
		}
	}
	for _, a := range numbers() {
		x := exact(a)
		n, e := nat.Int(a)
		if x.IsInt64() && (e != api.OK || int64(n) != x.Int64()) || !x.IsInt64() && (e != api.ErrOver || n != 0) {
			t.Errorf("Int(%v) = %d, %v", a, n, e)
		}
		if n, e := nat.Bits(a); e != api.OK || n != x.BitLen() {
			t.Errorf("Bits(%v) = %d, %v", a, n, e)
		}
		for _, b := range numbers() {
			if n, e := nat.Cmp(a, b); e != api.OK || n != x.Cmp(exact(b)) {
				t.Errorf("Cmp(%v, %v) = %d, %v", a, b, n, e)
			}
		}
	}
}

// P3.2, P3.5, P3.6: sums, differences, products and quotients.
func TestArithmetic(t *testing.T) {
	for _, a := range numbers() {
		for _, b := range numbers() {
			x, y := exact(a), exact(b)
			n, e := nat.Add(a, b)
			check(t, "Add", n, e, new(big.Int).Add(x, y))
			n, e = nat.Mul(a, b)
			check(t, "Mul", n, e, new(big.Int).Mul(x, y))
			n, e = nat.Sub(a, b)
			if x.Cmp(y) >= 0 {
				check(t, "Sub", n, e, new(big.Int).Sub(x, y))
			} else if len(n) != 0 || e != api.ErrRange {
				t.Errorf("Sub(%v, %v) = %v, %v", a, b, n, e)
			}
			q, r, e := nat.Div(a, b)
			if y.Sign() == 0 {
				if len(q) != 0 || len(r) != 0 || e != api.ErrZero {
					t.Errorf("Div(%v, 0) = %v, %v, %v", a, q, r, e)
				}
				continue
			}
			div, mod := new(big.Int).QuoRem(x, y, new(big.Int))
			check(t, "Div", q, e, div)
			check(t, "Div", r, e, mod)
		}
	}
}

// P3.2: quotients whose limbs are hard to estimate.
func TestHardQuotients(t *testing.T) {
	edges := []uint32{0, 1, 1 << 31, 1<<31 - 1, 1<<32 - 1, 1<<32 - 2}
	var l []api.Nat
	for _, a := range edges {
		for _, b := range edges {
			for _, c := range edges {
				for _, d := range edges {
					if d != 0 {
						l = append(l, api.Nat{a, b, c, d})
					}
				}
			}
		}
	}
	for i := 0; i < len(l); i += 3 {
		for j := i % 5; j < len(l); j += 5 {
			b := l[j][1:]
			q, r, e := nat.Div(l[i], b)
			div, mod := new(big.Int).QuoRem(exact(l[i]), exact(b), new(big.Int))
			check(t, "Div", q, e, div)
			check(t, "Div", r, e, mod)
		}
	}
}

// P3.2: Shift.
func TestShift(t *testing.T) {
	for _, a := range numbers() {
		for _, n := range []int{0, 1, 2, 31, 32, 33, 100, 4096, 8191, 8192, 10000} {
			up, e := nat.Shift(a, n)
			check(t, "Shift up", up, e, new(big.Int).Lsh(exact(a), uint(n)))
			down, e := nat.Shift(a, -n)
			check(t, "Shift down", down, e, new(big.Int).Rsh(exact(a), uint(n)))
		}
		for _, n := range []int{10001, -10001, 1<<63 - 1, -1 << 63} {
			if got, e := nat.Shift(a, n); len(got) != 0 || e != api.ErrRange {
				t.Errorf("Shift(.., %d) = %v, %v", n, got, e)
			}
		}
	}
}

// P3.3, P3.7: greatest common divisors.
func TestGcd(t *testing.T) {
	for _, a := range numbers() {
		for _, b := range numbers() {
			n, e := nat.Gcd(a, b)
			check(t, "Gcd", n, e, new(big.Int).GCD(nil, nil, exact(a), exact(b)))
			c := api.Nat{6, 1}
			ac, e1 := nat.Mul(a, c)
			bc, e2 := nat.Mul(b, c)
			if e1 == api.OK && e2 == api.OK {
				g, e := nat.Gcd(ac, bc)
				check(t, "Gcd of multiples", g, e, new(big.Int).Mul(exact(n), exact(c)))
			}
		}
	}
}

// P3.3, P3.8: roots.
func TestRoot(t *testing.T) {
	for _, a := range numbers() {
		x := exact(a)
		s := new(big.Int).Sqrt(x)
		square := new(big.Int).Mul(s, s)
		for _, n := range []*big.Int{x, square, less(square)} {
			if n.Sign() >= 0 {
				got, e := nat.Root(of(n))
				check(t, "Root", got, e, new(big.Int).Sqrt(n))
			}
		}
	}
}

// P3.4, P3.8: text.
func TestText(t *testing.T) {
	for _, a := range numbers() {
		s, e := nat.Text(a)
		if e != api.OK || s != exact(a).String() {
			t.Fatalf("Text(%v) = %s, %v", a, s, e)
		}
		n, f := nat.Parse(s)
		if f.At != 0 {
			t.Fatalf("Parse(%s): %v", s, f)
		}
		check(t, "Parse", n, f.Err, exact(a))
	}
	for _, x := range []string{"1000000000", "999999999", "1000000000000000000", "10"} {
		n, f := nat.Parse(x)
		if s, _ := nat.Text(n); s != x || f != (api.Fault{}) {
			t.Errorf("Text(Parse(%s)) = %s, %v", x, s, f)
		}
	}
}

// P3.4: the faults of Parse.
func TestParseFaults(t *testing.T) {
	for s, want := range map[string]api.Fault{
		"":                               {Err: api.ErrSyntax},
		"007":                            {Err: api.ErrSyntax},
		"00":                             {Err: api.ErrSyntax},
		"12x":                            {Err: api.ErrSyntax, At: 2},
		"00x":                            {Err: api.ErrSyntax, At: 2},
		"-1":                             {Err: api.ErrSyntax},
		"1\xff":                          {Err: api.ErrSyntax, At: 1},
		"1٣":                             {Err: api.ErrSyntax, At: 1},
		power(8192).String():             {Err: api.ErrOver},
		"0" + power(8192).String()[1:]:   {Err: api.ErrSyntax},
		strings.Repeat("9", 2467):        {Err: api.ErrOver},
		strings.Repeat("9", 2468):        {Err: api.ErrLong, At: 2467},
		strings.Repeat("x", 2468):        {Err: api.ErrLong, At: 2467},
		strings.Repeat("1", 2466) + "/":  {Err: api.ErrSyntax, At: 2466},
		"x" + strings.Repeat("0", 2466):  {Err: api.ErrSyntax},
		"0x" + strings.Repeat("0", 2460): {Err: api.ErrSyntax, At: 1},
	} {
		if n, f := nat.Parse(s); len(n) != 0 || f != want {
			t.Errorf("Parse(%.20s..) = %v, %v, want %v", s, n, f, want)
		}
	}
}

// P3.1: errors of Check come first, from left to right.
func TestInvalid(t *testing.T) {
	good := api.Nat{5}
	for want, bad := range invalid() {
		other := invalid()[api.ErrLong+api.ErrForm-want]
		for _, p := range [][2]api.Nat{{bad, good}, {good, bad}, {bad, nil}, {bad, other}} {
			a, b := p[0], p[1]
			x, e1 := nat.Cmp(a, b)
			y, e2 := nat.Add(a, b)
			z, e3 := nat.Sub(a, b)
			u, e4 := nat.Mul(a, b)
			q, r, e5 := nat.Div(a, b)
			g, e6 := nat.Gcd(a, b)
			for i, e := range []api.Errno{e1, e2, e3, e4, e5, e6} {
				if e != want {
					t.Errorf("function %d of two: %v, want %v", i, e, want)
				}
			}
			if x != 0 || len(y)+len(z)+len(u)+len(q)+len(r)+len(g) != 0 {
				t.Error("there is a result beside an error")
			}
		}
		n, e1 := nat.Int(bad)
		k, e2 := nat.Bits(bad)
		s, e3 := nat.Shift(bad, 20000)
		r, e4 := nat.Root(bad)
		x, e5 := nat.Text(bad)
		for i, e := range []api.Errno{e1, e2, e3, e4, e5} {
			if e != want {
				t.Errorf("function %d of one: %v, want %v", i, e, want)
			}
		}
		if n != 0 || k != 0 || len(s)+len(r)+len(x) != 0 {
			t.Error("there is a result beside an error")
		}
	}
}

// DOC.md, R4: results share no memory with arguments, and arguments are not changed.
func TestMemory(t *testing.T) {
	for _, a := range numbers() {
		for _, b := range []api.Nat{nil, {1}, {3, 4}} {
			before := slices.Clone(a)
			var l []api.Nat
			add := func(n api.Nat, _ api.Errno) { l = append(l, n) }
			add(nat.Add(a, b))
			add(nat.Sub(a, b))
			add(nat.Mul(a, b))
			add(nat.Gcd(a, b))
			add(nat.Shift(a, 0))
			add(nat.Root(a))
			q, r, _ := nat.Div(a, b)
			for _, n := range append(l, q, r) {
				for i := range n {
					n[i]++
				}
			}
			if !slices.Equal(a, before) {
				t.Fatalf("%v became %v", before, a)
			}
		}
	}
}
