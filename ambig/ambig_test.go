package ambig_test

import (
	"math/big"
	"math/rand/v2"
	"reflect"
	"slices"
	"testing"

	"skyfix/ambig"
	"skyfix/api"
	"skyfix/matrix"
	"skyfix/rat"
)

func num(a, b int) api.Rat {
	r, _ := rat.Of(a, b)
	return r
}

func value(a api.Rat) *big.Rat {
	text, _ := rat.Text(a)
	x, _ := new(big.Rat).SetString(text)
	return x
}

func of(x *big.Rat) api.Rat {
	a, _ := rat.Parse(x.RatString())
	return a
}

func whole(n int) *big.Rat { return new(big.Rat).SetInt64(int64(n)) }

// random returns an estimate of n numbers; its covariance is a random one.
func random(r *rand.Rand, n int) ([]api.Rat, api.Mat) {
	var a []api.Rat
	for range n {
		a = append(a, num(r.IntN(4001)-2000, 1+r.IntN(12)))
	}
	rows := make(api.Mat, n)
	for i := range rows {
		for k := range n {
			x := num(r.IntN(9)-4, 1+r.IntN(3))
			if i == k {
				x = num(1+r.IntN(9), 1+r.IntN(3))
			} else if k > i {
				x = num(0, 1)
			}
			rows[i] = append(rows[i], x)
		}
	}
	turned, _ := matrix.Turn(rows)
	q, _ := matrix.Mul(rows, turned)
	return a, q
}

// norm returns the norm by the definition.
func norm(a []api.Rat, q api.Mat, z []int) *big.Rat {
	p, _ := matrix.Inv(q)
	sum := new(big.Rat)
	for i := range a {
		for k := range a {
			x := new(big.Rat).Mul(value(p[i][k]), new(big.Rat).Sub(whole(z[i]), value(a[i])))
			sum.Add(sum, x.Mul(x, new(big.Rat).Sub(whole(z[k]), value(a[k]))))
		}
	}
	return sum
}

// rounded returns x, rounded halves away from 0.
func rounded(x *big.Rat) int {
	q := new(big.Int).Abs(x.Num())
	q.Lsh(q, 1).Add(q, x.Denom()).Quo(q, new(big.Int).Lsh(x.Denom(), 1))
	return int(q.Int64()) * x.Sign()
}

// sequence returns the sequence by the definition.
func sequence(a []api.Rat, q api.Mat) []int {
	p, _ := matrix.Inv(q)
	l, _, _ := matrix.Factor(p)
	z := make([]int, len(a))
	for j := len(a) - 1; j >= 0; j-- {
		x := value(a[j])
		for i := j + 1; i < len(a); i++ {
			d := new(big.Rat).Sub(whole(z[i]), value(a[i]))
			x.Sub(x, d.Mul(d, value(l[i][j])))
		}
		z[j] = rounded(x)
	}
	return z
}

// P38.2: norms, rounded lists and sequences.
func TestLists(t *testing.T) {
	r := rand.New(rand.NewPCG(38, 1))
	for range 150 {
		n := 1 + r.IntN(5)
		a, q := random(r, n)
		var round, z []int
		for _, x := range a {
			round = append(round, rounded(value(x)))
			z = append(z, r.IntN(2000000000001)-1000000000000)
		}
		if got, e := ambig.Norm(a, q, z); e != api.OK || value(got).Cmp(norm(a, q, z)) != 0 {
			t.Fatalf("Norm = %v, %v", got, e)
		}
		if got, e := ambig.Round(a, q); e != api.OK || !slices.Equal(got, round) {
			t.Fatalf("Round = %v, %v, want %v", got, e, round)
		}
		if got, e := ambig.Sequence(a, q); e != api.OK || !slices.Equal(got, sequence(a, q)) {
			t.Fatalf("Sequence = %v, %v, want %v", got, e, sequence(a, q))
		}
	}
}

// all yields all lists of n integers that are at most far from a center.
func all(center []int, far int, yield func(z []int)) {
	z := make([]int, len(center))
	var fill func(i int)
	fill = func(i int) {
		if i == len(z) {
			yield(z)
			return
		}
		for d := -far; d <= far; d++ {
			z[i] = center[i] + d
			fill(i + 1)
		}
	}
	fill(0)
}

// P38.3, P38.4, P38.7: the first two candidates, against all that are near.
func TestSearch(t *testing.T) {
	r := rand.New(rand.NewPCG(38, 2))
	for range 60 {
		n := 1 + r.IntN(3)
		a, q := random(r, n)
		got, e := ambig.Search(a, q)
		if e != api.OK {
			t.Fatal(e)
		}
		for i, z := range [][]int{got.Best, got.Second} {
			if value(got.Norms[i]).Cmp(norm(a, q, z)) != 0 {
				t.Fatalf("the norm of %v is %v", z, got.Norms[i])
			}
		}
		checkOrder(t, got)
		p, _ := matrix.Inv(q)
		pf := make([][]float64, n)
		for i := range p {
			for k := range p {
				f, _ := value(p[i][k]).Float64()
				pf[i] = append(pf[i], f)
			}
		}
		limit, _ := value(got.Norms[1]).Float64()
		all(got.Best, []int{200, 40, 14}[n-1], func(z []int) {
			if slices.Equal(z, got.Best) || slices.Equal(z, got.Second) {
				return
			}
			sum := 0.0
			for i := range z {
				x, _ := value(a[i]).Float64()
				for k := range z {
					y, _ := value(a[k]).Float64()
					sum += (float64(z[i]) - x) * pf[i][k] * (float64(z[k]) - y)
				}
			}
			if sum > limit*1.000001+1e-9 {
				return
			}
			exact := norm(a, q, z)
			if order := exact.Cmp(value(got.Norms[1])); order < 0 || order == 0 && slices.Compare(z, got.Second) < 0 {
				t.Fatalf("%v comes before %v: %v", z, got.Second, exact)
			}
		})
		checkBest(t, a, q, got)
	}
}

// checkOrder checks that the first candidate comes before the second one.
func checkOrder(t *testing.T, x api.Integers) {
	t.Helper()
	order := value(x.Norms[0]).Cmp(value(x.Norms[1]))
	if order > 0 || order == 0 && slices.Compare(x.Best, x.Second) >= 0 {
		t.Fatalf("the candidates are %v", x)
	}
}

// checkBest checks that neither the rounded list nor the sequence is better, and what follows from a search.
func checkBest(t *testing.T, a []api.Rat, q api.Mat, x api.Integers) {
	t.Helper()
	round, _ := ambig.Round(a, q)
	steps, _ := ambig.Sequence(a, q)
	if norm(a, q, round).Cmp(value(x.Norms[0])) < 0 || norm(a, q, steps).Cmp(value(x.Norms[0])) < 0 {
		t.Fatalf("%v or %v is better than %v", round, steps, x.Best)
	}
	ratio, e := ambig.Ratio(a, q)
	if value(x.Norms[0]).Sign() == 0 {
		if e != api.ErrZero || !reflect.DeepEqual(ratio, api.Rat{}) {
			t.Fatalf("Ratio = %v, %v", ratio, e)
		}
	} else if want := new(big.Rat).Quo(value(x.Norms[1]), value(x.Norms[0])); e != api.OK || value(ratio).Cmp(want) != 0 {
		t.Fatalf("Ratio = %v, %v, want %v", ratio, e, want)
	}
	if z, e := ambig.Accept(a, q, x.Norms[1]); z != nil || e != api.ErrNone {
		t.Fatalf("Accept = %v, %v", z, e)
	}
	less := of(new(big.Rat).Mul(value(x.Norms[1]), big.NewRat(999, 1000)))
	if z, e := ambig.Accept(a, q, less); !slices.Equal(z, x.Best) || e != api.OK {
		t.Fatalf("Accept = %v, %v", z, e)
	}
}

// P38.6: shifts and multiples, also with five numbers.
func TestShifts(t *testing.T) {
	r := rand.New(rand.NewPCG(38, 3))
	for range 60 {
		n := 1 + r.IntN(5)
		a, q := random(r, n)
		got, e := ambig.Search(a, q)
		if e != api.OK {
			t.Fatal(e)
		}
		var b []api.Rat
		var shift []int
		for i := range a {
			shift = append(shift, r.IntN(2001)-1000)
			x, _ := rat.Add(a[i], num(shift[i], 1))
			b = append(b, x)
		}
		big7 := make(api.Mat, n)
		for i, row := range q {
			for _, x := range row {
				y, _ := rat.Mul(x, num(7, 3))
				big7[i] = append(big7[i], y)
			}
		}
		moved, e := ambig.Search(b, q)
		wide, e2 := ambig.Search(a, big7)
		if e != api.OK || e2 != api.OK || !slices.Equal(wide.Best, got.Best) || !slices.Equal(wide.Second, got.Second) {
			t.Fatalf("Search = %v, %v, %v, %v", moved, e, wide, e2)
		}
		for i := range a {
			if moved.Best[i] != got.Best[i]+shift[i] || moved.Second[i] != got.Second[i]+shift[i] {
				t.Fatalf("%v is shifted to %v by %v", got, moved, shift)
			}
		}
		for i := range 2 {
			want := new(big.Rat).Mul(value(got.Norms[i]), big.NewRat(3, 7))
			if value(moved.Norms[i]).Cmp(value(got.Norms[i])) != 0 || value(wide.Norms[i]).Cmp(want) != 0 {
				t.Fatalf("the norms are %v, %v, %v", got.Norms[i], moved.Norms[i], wide.Norms[i])
			}
		}
	}
}

// P38.5: what is accepted is the only list within the bound.
func TestCertainty(t *testing.T) {
	r := rand.New(rand.NewPCG(38, 4))
	accepted := 0
	for range 100 {
		n := 1 + r.IntN(4)
		_, q := random(r, n)
		truth := make([]int, n)
		var a []api.Rat
		for i := range truth {
			truth[i] = r.IntN(2001) - 1000
			a = append(a, of(new(big.Rat).Add(whole(truth[i]), big.NewRat(int64(r.IntN(201)-100), 400))))
		}
		bound, _ := ambig.Norm(a, q, truth)
		z, e := ambig.Accept(a, q, bound)
		if e == api.ErrNone {
			continue
		}
		accepted++
		if !slices.Equal(z, truth) || e != api.OK {
			t.Fatalf("Accept = %v, %v, want %v", z, e, truth)
		}
	}
	if accepted < 10 {
		t.Errorf("only %d lists are accepted", accepted)
	}
}

// The examples of the chapter.
func TestExamples(t *testing.T) {
	q, _ := matrix.Ints([][]int{{1, 0}, {0, 1}})
	g, _ := matrix.Ints([][]int{{5, 2}, {2, 1}})
	for i, x := range []struct {
		a            []api.Rat
		q            api.Mat
		best, second []int
		norms        [2]*big.Rat
	}{
		{[]api.Rat{num(1, 4), num(-2, 3)}, q, []int{0, -1}, []int{0, 0}, [2]*big.Rat{big.NewRat(25, 144), big.NewRat(73, 144)}},
		{[]api.Rat{num(0, 1), num(1, 2)}, g, []int{-1, 0}, []int{1, 1}, [2]*big.Rat{big.NewRat(1, 4), big.NewRat(1, 4)}},
	} {
		s, e := ambig.Search(x.a, x.q)
		if e != api.OK || !slices.Equal(s.Best, x.best) || !slices.Equal(s.Second, x.second) || value(s.Norms[0]).Cmp(x.norms[0]) != 0 || value(s.Norms[1]).Cmp(x.norms[1]) != 0 {
			t.Errorf("%d: Search = %v, %v", i, s, e)
		}
	}
	half := []api.Rat{num(0, 1), num(1, 2)}
	round, _ := ambig.Round(half, g)
	steps, _ := ambig.Sequence(half, g)
	if !slices.Equal(round, []int{0, 1}) || !slices.Equal(steps, []int{1, 1}) {
		t.Errorf("Round, Sequence = %v, %v", round, steps)
	}
	if z, _ := ambig.Round([]api.Rat{num(1, 2), num(-1, 2)}, q); !slices.Equal(z, []int{1, -1}) {
		t.Errorf("Round = %v", z)
	}
}

// P38.1, P38.2, P38.3: the errors, in their order.
func TestErrors(t *testing.T) {
	q, _ := matrix.Ints([][]int{{1, 0}, {0, 1}})
	bad, _ := matrix.Ints([][]int{{1, 2}, {2, 1}})
	wide, _ := matrix.Ints([][]int{{1, 0}})
	zero := num(0, 1)
	most := num(1000000000, 1)
	minus, _ := rat.Neg(of(new(big.Rat).Add(value(most), big.NewRat(1, 7))))
	for i, x := range []struct {
		a []api.Rat
		q api.Mat
		e api.Errno
	}{
		{nil, nil, api.ErrRange}, {make([]api.Rat, 6), nil, api.ErrRange}, {[]api.Rat{zero, {}}, nil, api.ErrZero}, {[]api.Rat{{Num: api.Nat{0}}}, nil, api.ErrForm}, {[]api.Rat{num(1000000001, 1), {}}, nil, api.ErrRange}, {[]api.Rat{minus}, nil, api.ErrRange},
		{[]api.Rat{most}, nil, api.ErrRange}, {[]api.Rat{zero}, api.Mat{{{}}}, api.ErrZero}, {[]api.Rat{zero}, q, api.ErrType}, {[]api.Rat{zero, zero}, wide, api.ErrType}, {[]api.Rat{zero}, wide, api.ErrType}, {[]api.Rat{zero, zero}, bad, api.ErrState},
	} {
		e := ambig.Check(x.a, x.q)
		n, e1 := ambig.Norm(x.a, x.q, nil)
		z, e2 := ambig.Round(x.a, x.q)
		s, e3 := ambig.Sequence(x.a, x.q)
		b, e4 := ambig.Search(x.a, x.q)
		r, e5 := ambig.Ratio(x.a, x.q)
		c, e6 := ambig.Accept(x.a, x.q, api.Rat{})
		for _, got := range []api.Errno{e, e1, e2, e3, e4, e5, e6} {
			if got != x.e {
				t.Errorf("%d: %v, want %v", i, got, x.e)
			}
		}
		if !reflect.DeepEqual([]any{n, r, b}, []any{api.Rat{}, api.Rat{}, api.Integers{}}) || z != nil || s != nil || c != nil {
			t.Errorf("%d: there is a result beside an error", i)
		}
	}
	two := []api.Rat{zero, zero}
	for i, x := range []struct {
		z []int
		e api.Errno
	}{{nil, api.ErrType}, {[]int{1 << 62}, api.ErrType}, {[]int{0, 0, 0}, api.ErrType}, {[]int{0, 1000000000001}, api.ErrRange}, {[]int{-1000000000001, 0}, api.ErrRange}, {[]int{1000000000000, -1000000000000}, api.OK}} {
		if _, e := ambig.Norm(two, q, x.z); e != x.e {
			t.Errorf("%d: Norm: %v, want %v", i, e, x.e)
		}
	}
	for i, x := range []struct {
		bound api.Rat
		e     api.Errno
	}{{api.Rat{}, api.ErrZero}, {api.Rat{Neg: true, Den: api.Nat{1}}, api.ErrForm}, {num(-1, 1000), api.ErrRange}, {num(1, 1), api.ErrNone}, {num(999, 1000), api.OK}, {zero, api.OK}} {
		if z, e := ambig.Accept(two, q, x.bound); e != x.e || (z == nil) != (e != api.OK) {
			t.Errorf("%d: Accept = %v, %v, want %v", i, z, e, x.e)
		}
	}
	if r, e := ambig.Ratio(two, q); !reflect.DeepEqual(r, api.Rat{}) || e != api.ErrZero {
		t.Errorf("Ratio = %v, %v", r, e)
	}
}

// P38.3: numbers that are too long or too great.
func TestOver(t *testing.T) {
	power := func(n uint) api.Rat {
		return of(new(big.Rat).SetInt(new(big.Int).Lsh(big.NewInt(1), n)))
	}
	a := []api.Rat{num(1, 3), num(1, 2)}
	// The inverse of this covariance has numbers that are too long.
	x := of(new(big.Rat).SetFrac(new(big.Int).Sub(new(big.Int).Lsh(big.NewInt(1), 5000), big.NewInt(1)), big.NewInt(7)))
	y := of(new(big.Rat).SetFrac(new(big.Int).Add(new(big.Int).Lsh(big.NewInt(1), 5000), big.NewInt(5)), big.NewInt(11)))
	q := api.Mat{{x, num(1, 1)}, {num(1, 1), y}}
	if s, e := ambig.Search(a, q); e != api.ErrOver || s.Best != nil {
		t.Errorf("Search = %v, %v", s, e)
	}
	if z, e := ambig.Sequence(a, q); e != api.OK || !slices.Equal(z, []int{0, 1}) {
		t.Errorf("Sequence = %v, %v", z, e)
	}
	// A sequence far away: the second number is known exactly but for a great multiple of the first one.
	wide := api.Mat{{power(200), power(100)}, {power(100), num(2, 1)}}
	if z, e := ambig.Sequence(a, wide); z != nil || e != api.ErrOver {
		t.Errorf("Sequence = %v, %v", z, e)
	}
	if s, e := ambig.Search(a, wide); s.Best != nil || e != api.ErrOver {
		t.Errorf("Search = %v, %v", s, e)
	}
	if z, e := ambig.Round(a, wide); e != api.OK || !slices.Equal(z, []int{0, 1}) {
		t.Errorf("Round = %v, %v", z, e)
	}
	// The norm of 0 has room, though the inverse has not.
	if n, e := ambig.Norm([]api.Rat{num(0, 1), num(0, 1)}, q, []int{0, 0}); e != api.OK || value(n).Sign() != 0 {
		t.Errorf("Norm = %v, %v", n, e)
	}
	if n, e := ambig.Norm(a, q, []int{0, 0}); !reflect.DeepEqual(n, api.Rat{}) || e != api.ErrOver {
		t.Errorf("Norm = %v, %v", n, e)
	}
}
