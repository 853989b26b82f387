package rat_test

import (
	"math/big"
	"math/rand/v2"
	"reflect"
	"strings"
	"testing"

	"skyfix/api"
	"skyfix/rat"
)

// limbs returns the absolute value in limbs.
func limbs(n *big.Int) api.Nat {
	var l api.Nat
	for x := new(big.Int).Abs(n); x.Sign() > 0; x.Rsh(x, 32) {
		l = append(l, uint32(new(big.Int).And(x, big.NewInt(1<<32-1)).Uint64()))
	}
	return l
}

// of returns a rational number in its valid form, which may have too many limbs.
func of(x *big.Rat) api.Rat {
	return api.Rat{Neg: x.Sign() < 0, Num: limbs(x.Num()), Den: limbs(x.Denom())}
}

func whole(l api.Nat) *big.Int {
	n := new(big.Int)
	for i := len(l) - 1; i >= 0; i-- {
		n.Lsh(n, 32).Add(n, big.NewInt(int64(l[i])))
	}
	return n
}

func exact(a api.Rat) *big.Rat {
	x := new(big.Rat).SetFrac(whole(a.Num), whole(a.Den))
	if a.Neg {
		x.Neg(x)
	}
	return x
}

func power(n uint) *big.Int { return new(big.Int).Lsh(big.NewInt(1), n) }

func frac(a, b int64) *big.Rat { return big.NewRat(a, b) }

// same compares results; a nil slice and an empty one are equal.
func same(a, b api.Rat) bool {
	return a.Neg == b.Neg && whole(a.Num).Cmp(whole(b.Num)) == 0 && whole(a.Den).Cmp(whole(b.Den)) == 0 && len(a.Num) == len(b.Num) && len(a.Den) == len(b.Den)
}

func check(t *testing.T, name string, got api.Rat, e api.Errno, want *big.Rat) {
	t.Helper()
	w := of(want)
	if len(w.Num) > api.MaxLimbs || len(w.Den) > api.MaxLimbs {
		if e != api.ErrOver || !reflect.DeepEqual(got, api.Rat{}) {
			t.Fatalf("%s = %v, %v, want ErrOver", name, got, e)
		}
		return
	}
	if e != api.OK || !same(got, w) {
		t.Fatalf("%s = %v, %v, want %v", name, got, e, want)
	}
}

// numbers returns rational numbers of all sizes.
func numbers() []*big.Rat {
	l := []*big.Rat{frac(0, 1), frac(1, 1), frac(-1, 1), frac(1, 2), frac(-1, 2), frac(3, 2), frac(-3, 2), frac(5, 2), frac(1, 3), frac(-2, 3), frac(3, 4), frac(-7, 1)}
	top := new(big.Int).Sub(power(8192), big.NewInt(1))
	l = append(l, new(big.Rat).SetInt(top), new(big.Rat).SetFrac(big.NewInt(-1), top), new(big.Rat).SetFrac(power(8191), top), new(big.Rat).SetFrac(big.NewInt(1), power(8191)))
	r := rand.New(rand.NewPCG(4, 2))
	part := func() *big.Int {
		n := new(big.Int)
		for range 1 + r.IntN(1<<r.IntN(9)) {
			n.Lsh(n, 32).Add(n, big.NewInt(int64(r.Uint32())))
		}
		return n
	}
	for range 40 {
		x := new(big.Rat).SetFrac(part(), new(big.Int).Add(part(), big.NewInt(1)))
		if r.IntN(2) == 0 {
			x.Neg(x)
		}
		l = append(l, x)
	}
	return l
}

// P4.2, P4.5: the field.
func TestField(t *testing.T) {
	for _, x := range numbers() {
		a := of(x)
		got, e := rat.Neg(a)
		check(t, "Neg", got, e, new(big.Rat).Neg(x))
		for _, y := range numbers() {
			b := of(y)
			got, e := rat.Add(a, b)
			check(t, "Add", got, e, new(big.Rat).Add(x, y))
			got, e = rat.Sub(a, b)
			check(t, "Sub", got, e, new(big.Rat).Sub(x, y))
			got, e = rat.Mul(a, b)
			check(t, "Mul", got, e, new(big.Rat).Mul(x, y))
			got, e = rat.Div(a, b)
			if y.Sign() != 0 {
				check(t, "Div", got, e, new(big.Rat).Quo(x, y))
			} else if e != api.ErrZero || !reflect.DeepEqual(got, api.Rat{}) {
				t.Errorf("Div(%v, 0) = %v, %v", x, got, e)
			}
			if n, e := rat.Cmp(a, b); e != api.OK || n != x.Cmp(y) {
				t.Errorf("Cmp(%v, %v) = %d, %v", x, y, n, e)
			}
		}
	}
}

// P4.2: only the result has to have room, not what lies before it.
func TestLongWay(t *testing.T) {
	p := new(big.Int).Sub(power(8000), big.NewInt(1))
	q := new(big.Int).Sub(power(7919), big.NewInt(1))
	x := new(big.Rat).SetFrac(q, p)
	for _, y := range []*big.Rat{new(big.Rat).SetFrac(big.NewInt(1), p), new(big.Rat).Neg(x), new(big.Rat).SetFrac(big.NewInt(1), q)} {
		got, e := rat.Add(of(x), of(y))
		check(t, "Add", got, e, new(big.Rat).Add(x, y))
		got, e = rat.Sub(of(x), of(y))
		check(t, "Sub", got, e, new(big.Rat).Sub(x, y))
	}
	top := new(big.Int).Sub(power(8192), big.NewInt(1))
	got, e := rat.Round(of(new(big.Rat).SetFrac(top, big.NewInt(2))))
	check(t, "Round", got, e, new(big.Rat).SetInt(power(8191)))
}

// P4.3, P4.6: integers.
func TestIntegers(t *testing.T) {
	for _, x := range numbers() {
		a := of(x)
		floor := new(big.Int).Div(x.Num(), x.Denom())
		got, e := rat.Floor(a)
		check(t, "Floor", got, e, new(big.Rat).SetInt(floor))
		twice := new(big.Int).Lsh(new(big.Int).Abs(x.Num()), 1)
		near := twice.Add(twice, x.Denom()).Quo(twice, new(big.Int).Lsh(x.Denom(), 1))
		if x.Sign() < 0 {
			near.Neg(near)
		}
		got, e = rat.Round(a)
		check(t, "Round", got, e, new(big.Rat).SetInt(near))
		want := api.OK
		if !x.IsInt() {
			want = api.ErrNone
		} else if !x.Num().IsInt64() {
			want = api.ErrOver
		}
		n, e := rat.Int(a)
		if e != want || e == api.OK && int64(n) != x.Num().Int64() || e != api.OK && n != 0 {
			t.Errorf("Int(%v) = %d, %v", x, n, e)
		}
	}
	for _, n := range []int{-1 << 63, 1<<63 - 1} {
		if got, e := rat.Int(of(frac(int64(n), 1))); got != n || e != api.OK {
			t.Errorf("Int(%d) = %d, %v", n, got, e)
		}
	}
	for _, n := range []*big.Int{power(63), new(big.Int).Neg(new(big.Int).Add(power(63), big.NewInt(1)))} {
		if got, e := rat.Int(of(new(big.Rat).SetInt(n))); got != 0 || e != api.ErrOver {
			t.Errorf("Int(%v) = %d, %v", n, got, e)
		}
	}
}

// P4.1: Check, Make and Of.
func TestMake(t *testing.T) {
	long := make(api.Nat, 257)
	for _, x := range []struct {
		a    api.Rat
		e, f api.Errno // of Check, and of Make
	}{
		{api.Rat{}, api.ErrZero, api.ErrZero},
		{api.Rat{Num: api.Nat{5}}, api.ErrZero, api.ErrZero},
		{api.Rat{Num: api.Nat{0}}, api.ErrForm, api.ErrForm},
		{api.Rat{Num: long, Den: api.Nat{0}}, api.ErrLong, api.ErrLong},
		{api.Rat{Num: api.Nat{1, 0}, Den: long}, api.ErrForm, api.ErrForm},
		{api.Rat{Num: api.Nat{1}, Den: long}, api.ErrLong, api.ErrLong},
		{api.Rat{Num: api.Nat{2}, Den: api.Nat{4}}, api.ErrForm, api.OK},
		{api.Rat{Neg: true, Den: api.Nat{1}}, api.ErrForm, api.OK},
		{api.Rat{Den: api.Nat{2}}, api.ErrForm, api.OK},
		{api.Rat{Den: api.Nat{1}}, api.OK, api.OK},
		{api.Rat{Neg: true, Num: api.Nat{0, 0, 7}, Den: api.Nat{9, 1}}, api.OK, api.OK},
	} {
		if e := rat.Check(x.a); e != x.e {
			t.Errorf("Check(%v) = %v, want %v", x.a, e, x.e)
		}
		got, e := rat.Make(x.a.Neg, x.a.Num, x.a.Den)
		if e != x.f || e != api.OK && !reflect.DeepEqual(got, api.Rat{}) {
			t.Errorf("Make(%v) = %v, %v, want %v", x.a, got, e, x.f)
		}
		if e == api.OK && (exact(got).Cmp(exact(x.a)) != 0 || rat.Check(got) != api.OK) {
			t.Errorf("Make(%v) = %v", x.a, got)
		}
	}
	ints := []int{0, 1, -1, 2, 6, -4, -5, 1 << 62, 1<<63 - 1, -1 << 63}
	for _, a := range ints {
		for _, b := range ints {
			got, e := rat.Of(a, b)
			if b != 0 {
				check(t, "Of", got, e, frac(int64(a), 1).Quo(frac(int64(a), 1), frac(int64(b), 1)))
			} else if e != api.ErrZero || !reflect.DeepEqual(got, api.Rat{}) {
				t.Errorf("Of(%d, 0) = %v, %v", a, got, e)
			}
		}
	}
}

// P4.4, P4.7: texts.
func TestText(t *testing.T) {
	for _, x := range numbers() {
		s, e := rat.Text(of(x))
		if want := x.RatString(); s != want || e != api.OK {
			t.Fatalf("Text(%v) = %s, %v", x, s, e)
		}
		if len(s) <= 5000 {
			got, f := rat.Parse(s)
			if f.At != 0 {
				t.Fatalf("Parse(%s): %v", s, f)
			}
			check(t, "Parse", got, f.Err, x)
		}
		if len(x.Num().String())+len(x.Denom().String()) < 2000 {
			three := big.NewInt(3)
			s := new(big.Int).Mul(x.Num(), three).String() + "/" + new(big.Int).Mul(x.Denom(), three).String()
			got, f := rat.Parse(s)
			check(t, "Parse", got, f.Err, x)
		}
	}
}

// P4.4: the faults of Parse, in their order.
func TestParseFaults(t *testing.T) {
	zeros, nines := strings.Repeat("0", 2467), strings.Repeat("9", 2467)
	for s, want := range map[string]api.Fault{
		"":                              {Err: api.ErrSyntax},
		"-":                             {Err: api.ErrSyntax, At: 1},
		"--1":                           {Err: api.ErrSyntax, At: 1},
		"+1":                            {Err: api.ErrSyntax},
		"1/":                            {Err: api.ErrSyntax, At: 2},
		"/2":                            {Err: api.ErrSyntax},
		"-/2":                           {Err: api.ErrSyntax, At: 1},
		"1/-2":                          {Err: api.ErrSyntax, At: 2},
		"1/2/3":                         {Err: api.ErrSyntax, At: 3},
		"12x/0":                         {Err: api.ErrSyntax, At: 2},
		"01/x":                          {Err: api.ErrSyntax, At: 3},
		"01/2":                          {Err: api.ErrSyntax},
		"-01/00":                        {Err: api.ErrSyntax, At: 1},
		"1/02":                          {Err: api.ErrSyntax, At: 2},
		"-1/00":                         {Err: api.ErrSyntax, At: 3},
		"1/0":                           {Err: api.ErrZero, At: 2},
		"-12/0":                         {Err: api.ErrZero, At: 4},
		"0/0":                           {Err: api.ErrZero, At: 2},
		nines:                           {Err: api.ErrOver},
		"-" + nines + "/0":              {Err: api.ErrOver, At: 1},
		"-1/" + nines:                   {Err: api.ErrOver, At: 3},
		"-" + nines + "1/2":             {Err: api.ErrLong, At: 2468},
		"1/" + nines + "1":              {Err: api.ErrLong, At: 2469},
		zeros + zeros + zeros[:66]:      {Err: api.ErrLong, At: 2467},
		zeros + zeros + zeros[:67]:      {Err: api.ErrLong, At: 5000},
		strings.Repeat("x", 5001):       {Err: api.ErrLong, At: 5000},
		strings.Repeat("1", 2468) + "x": {Err: api.ErrSyntax, At: 2468},
	} {
		if got, f := rat.Parse(s); f != want || !reflect.DeepEqual(got, api.Rat{}) {
			t.Errorf("Parse(%.20s..) = %v, %v, want %v", s, got, f, want)
		}
	}
	for s, want := range map[string]*big.Rat{"6/4": frac(3, 2), "-0/7": frac(0, 1), "-0": frac(0, 1), "0/5": frac(0, 1), "-8/4": frac(-2, 1)} {
		got, f := rat.Parse(s)
		check(t, "Parse", got, f.Err, want)
	}
}

// The errors of Check come first, from left to right.
func TestInvalid(t *testing.T) {
	good := of(frac(5, 3))
	bad := map[api.Errno]api.Rat{api.ErrLong: {Num: make(api.Nat, 257)}, api.ErrForm: {Num: api.Nat{2}, Den: api.Nat{2}}, api.ErrZero: {}}
	for want, a := range bad {
		for other, b := range bad {
			if other == want {
				b = good
			}
			for i, f := range []func(a, b api.Rat) (api.Rat, api.Errno){rat.Add, rat.Sub, rat.Mul, rat.Div} {
				got, e := f(a, b)
				if e != want || !reflect.DeepEqual(got, api.Rat{}) {
					t.Errorf("function %d: %v, %v, want %v", i, got, e, want)
				}
			}
			if n, e := rat.Cmp(a, b); n != 0 || e != want {
				t.Errorf("Cmp = %d, %v, want %v", n, e, want)
			}
		}
		for i, f := range []func(a, b api.Rat) (api.Rat, api.Errno){rat.Add, rat.Sub, rat.Mul, rat.Div} {
			if got, e := f(good, a); e != want || !reflect.DeepEqual(got, api.Rat{}) {
				t.Errorf("function %d, second: %v, %v, want %v", i, got, e, want)
			}
		}
		for i, f := range []func(a api.Rat) (api.Rat, api.Errno){rat.Neg, rat.Floor, rat.Round} {
			if got, e := f(a); e != want || !reflect.DeepEqual(got, api.Rat{}) {
				t.Errorf("function %d of one: %v, %v, want %v", i, got, e, want)
			}
		}
		n, e1 := rat.Int(a)
		s, e2 := rat.Text(a)
		if n != 0 || s != "" || e1 != want || e2 != want {
			t.Errorf("Int, Text = %d, %v, %s, %v", n, e1, s, e2)
		}
	}
}

// DOC.md, R4: results share no memory with arguments.
func TestMemory(t *testing.T) {
	for _, x := range numbers() {
		a, b := of(x), of(x)
		one, zero := of(frac(1, 1)), of(frac(0, 1))
		var l []api.Rat
		add := func(r api.Rat, _ api.Errno) { l = append(l, r) }
		add(rat.Neg(a))
		add(rat.Add(a, zero))
		add(rat.Sub(a, zero))
		add(rat.Mul(a, one))
		add(rat.Div(a, one))
		add(rat.Floor(a))
		add(rat.Round(a))
		add(rat.Make(a.Neg, a.Num, a.Den))
		for _, r := range l {
			for i := range r.Num {
				r.Num[i]++
			}
			for i := range r.Den {
				r.Den[i]++
			}
		}
		if !reflect.DeepEqual(a, b) {
			t.Fatalf("%v became %v", b, a)
		}
	}
}
