package matrix_test

import (
	"math/big"
	"math/rand/v2"
	"reflect"
	"testing"

	"skyfix/api"
	"skyfix/matrix"
	"skyfix/rat"
)

// num returns a/b.
func num(a, b int) api.Rat {
	r, _ := rat.Of(a, b)
	return r
}

// list returns integers as rational numbers.
func list(l ...int) []api.Rat {
	out := []api.Rat{}
	for _, x := range l {
		out = append(out, num(x, 1))
	}
	return out
}

// mat returns the matrix of integers.
func mat(rows ...[]int) api.Mat {
	m := api.Mat{}
	for _, r := range rows {
		m = append(m, list(r...))
	}
	return m
}

func exact(a api.Rat) *big.Rat {
	text, _ := rat.Text(a)
	x, _ := new(big.Rat).SetString(text)
	return x
}

func of(x *big.Rat) api.Rat {
	a, _ := rat.Parse(x.RatString())
	return a
}

// equal compares numbers; nil slices and empty ones are equal.
func equal(a, b api.Rat) bool {
	n, e := rat.Cmp(a, b)
	return e == api.OK && n == 0
}

func equalLists(a, b []api.Rat) bool {
	for i := range a {
		if i >= len(b) || !equal(a[i], b[i]) {
			return false
		}
	}
	return len(a) == len(b)
}

func equalMats(a, b api.Mat) bool {
	for i := range a {
		if i >= len(b) || !equalLists(a[i], b[i]) {
			return false
		}
	}
	return len(a) == len(b)
}

// random returns a matrix of small fractions, some of them 0.
func random(r *rand.Rand, rows, columns int) api.Mat {
	m := make(api.Mat, rows)
	for i := range m {
		for range columns {
			x := num(r.IntN(19)-9, 1+r.IntN(5))
			if r.IntN(4) == 0 {
				x = num(0, 1)
			}
			m[i] = append(m[i], x)
		}
	}
	return m
}

// fallen makes the last row of a matrix a combination of the others, if there are others.
func fallen(a api.Mat) api.Mat {
	for k := range a[0] {
		sum := num(0, 1)
		for i := range len(a) - 1 {
			part, _ := rat.Mul(num(i+2, 3), a[i][k])
			sum, _ = rat.Add(sum, part)
		}
		a[len(a)-1][k] = sum
	}
	return a
}

// minor returns the matrix without the first row and a column.
func minor(a api.Mat, k int) api.Mat {
	m := api.Mat{}
	for _, row := range a[1:] {
		m = append(m, append(append([]api.Rat{}, row[:k]...), row[k+1:]...))
	}
	return m
}

// laplace returns the determinant by its definition.
func laplace(a api.Mat) *big.Rat {
	if len(a) == 0 {
		return big.NewRat(1, 1)
	}
	sum := new(big.Rat)
	for k, x := range a[0] {
		part := new(big.Rat).Mul(exact(x), laplace(minor(a, k)))
		if k%2 == 1 {
			part.Neg(part)
		}
		sum.Add(sum, part)
	}
	return sum
}

// product returns the product by its definition.
func product(a, b api.Mat) api.Mat {
	m := make(api.Mat, len(a))
	for i := range a {
		for k := range b[0] {
			sum := new(big.Rat)
			for j := range b {
				sum.Add(sum, new(big.Rat).Mul(exact(a[i][j]), exact(b[j][k])))
			}
			m[i] = append(m[i], of(sum))
		}
	}
	return m
}

func one(n int) api.Mat {
	m, _ := matrix.One(n)
	return m
}

// P5.1: Check, One and Ints.
func TestCheck(t *testing.T) {
	wide := [][]int{make([]int, 25)}
	square := make([][]int, 24)
	for i := range square {
		square[i] = make([]int, 24)
	}
	for i, x := range []struct {
		l [][]int
		e api.Errno
	}{
		{nil, api.ErrRange}, {make([][]int, 25), api.ErrRange}, {wide, api.ErrRange}, {[][]int{{}}, api.ErrRange},
		{[][]int{{1, 2}, {3}}, api.ErrForm}, {[][]int{{1}, {3, 4}}, api.ErrForm}, {[][]int{{1}, {}}, api.ErrForm},
		{square, api.OK}, {[][]int{{-1 << 63}}, api.OK},
	} {
		if m, e := matrix.Ints(x.l); e != x.e || !(e == api.OK && equalMats(m, mat(x.l...)) || e != api.OK && m == nil) {
			t.Errorf("%d: Ints = %v, %v, want %v", i, m, e, x.e)
		}
		if e := matrix.Check(mat(x.l...)); e != x.e {
			t.Errorf("%d: Check = %v, want %v", i, e, x.e)
		}
	}
	bad := mat([]int{1, 2}, []int{3})
	bad[0][1] = api.Rat{Num: api.Nat{2}, Den: api.Nat{4}}
	bad[0][0] = api.Rat{}
	if e := matrix.Check(bad); e != api.ErrZero {
		t.Errorf("Check = %v, want ErrZero", e)
	}
	bad[0][0] = num(1, 1)
	if e := matrix.Check(bad); e != api.ErrForm {
		t.Errorf("Check = %v, want ErrForm", e)
	}
	for _, n := range []int{0, -1, 25, 1 << 62} {
		if m, e := matrix.One(n); m != nil || e != api.ErrRange {
			t.Errorf("One(%d) = %v, %v", n, m, e)
		}
	}
	if m, e := matrix.One(2); e != api.OK || !equalMats(m, mat([]int{1, 0}, []int{0, 1})) {
		t.Errorf("One(2) = %v, %v", m, e)
	}
}

// P5.2, P5.4: sums, products and transposes.
func TestRing(t *testing.T) {
	r := rand.New(rand.NewPCG(5, 1))
	for range 60 {
		n, m, k := 1+r.IntN(5), 1+r.IntN(5), 1+r.IntN(5)
		a, b, c := random(r, n, m), random(r, n, m), random(r, m, k)
		sum, e := matrix.Add(a, b)
		if e != api.OK {
			t.Fatal(e)
		}
		for i := range a {
			for j := range a[0] {
				if exact(sum[i][j]).Cmp(new(big.Rat).Add(exact(a[i][j]), exact(b[i][j]))) != 0 {
					t.Fatal("Add is wrong")
				}
			}
		}
		p, e := matrix.Mul(a, c)
		if e != api.OK || !equalMats(p, product(a, c)) {
			t.Fatalf("Mul = %v, %v", p, e)
		}
		turned, e := matrix.Turn(p)
		ct, _ := matrix.Turn(c)
		at, _ := matrix.Turn(a)
		if e != api.OK || !equalMats(turned, product(ct, at)) || len(turned) != k || len(turned[0]) != n {
			t.Fatalf("Turn = %v, %v", turned, e)
		}
	}
}

// P5.2, P5.5, P5.6: determinants, inverses and ranks.
func TestInverse(t *testing.T) {
	r := rand.New(rand.NewPCG(5, 2))
	for i := range 120 {
		n := 1 + r.IntN(5)
		a, b := random(r, n, n), random(r, n, n)
		if i%4 == 0 {
			a = fallen(a)
		}
		want := laplace(a)
		det, e := matrix.Det(a)
		if e != api.OK || exact(det).Cmp(want) != 0 {
			t.Fatalf("Det = %v, %v, want %v", det, e, want)
		}
		ab, _ := matrix.Det(product(a, b))
		if exact(ab).Cmp(new(big.Rat).Mul(want, laplace(b))) != 0 {
			t.Fatal("Det is not multiplicative")
		}
		rank, e := matrix.Rank(a)
		if e != api.OK || (rank == n) != (want.Sign() != 0) {
			t.Fatalf("Rank = %d, %v, of %d", rank, e, n)
		}
		inv, e := matrix.Inv(a)
		x, e2 := matrix.Solve(a, b[0])
		if want.Sign() == 0 {
			if inv != nil || x != nil || e != api.ErrSingular || e2 != api.ErrSingular {
				t.Fatalf("Inv, Solve = %v, %v, %v, %v", inv, e, x, e2)
			}
			continue
		}
		if e != api.OK || !equalMats(product(a, inv), one(n)) || !equalMats(product(inv, a), one(n)) {
			t.Fatalf("Inv = %v, %v", inv, e)
		}
		column := api.Mat{}
		for _, v := range x {
			column = append(column, []api.Rat{v})
		}
		back, _ := matrix.Turn(product(a, column))
		if e2 != api.OK || !equalLists(back[0], b[0]) {
			t.Fatalf("Solve = %v, %v", x, e2)
		}
	}
}

// P5.2: ranks of matrices of any shape.
func TestRank(t *testing.T) {
	r := rand.New(rand.NewPCG(5, 3))
	for range 100 {
		n, m, k := 1+r.IntN(6), 1+r.IntN(6), 1+r.IntN(4)
		a, b := random(r, n, k), random(r, k, m)
		rank, e := matrix.Rank(product(a, b))
		ra, _ := matrix.Rank(a)
		rb, _ := matrix.Rank(b)
		if e != api.OK || rank > min(ra, rb) || rank < ra+rb-k {
			t.Fatalf("Rank = %d, %v, of a product of %d and %d (%d)", rank, e, ra, rb, k)
		}
		turned, _ := matrix.Turn(product(a, b))
		if other, _ := matrix.Rank(turned); other != rank {
			t.Fatalf("the transpose has the rank %d, not %d", other, rank)
		}
	}
	for want, a := range map[int]api.Mat{0: mat([]int{0, 0}), 1: mat([]int{1, 2}, []int{2, 4}), 2: mat([]int{0, 0, 1}, []int{0, 2, 0}), 3: mat([]int{0, 1, 0, 5}, []int{0, 0, 0, 1}, []int{3, 0, 0, 0})} {
		if rank, e := matrix.Rank(a); rank != want || e != api.OK {
			t.Errorf("Rank = %d, %v, want %d", rank, e, want)
		}
	}
}

// P5.3, P5.7: positive definite matrices.
func TestDefinite(t *testing.T) {
	r := rand.New(rand.NewPCG(5, 4))
	for range 80 {
		n, m := 1+r.IntN(5), 1+r.IntN(6)
		a := random(r, n, m)
		at, _ := matrix.Turn(a)
		g := product(a, at)
		rank, _ := matrix.Rank(a)
		ok, e := matrix.Definite(g)
		if e != api.OK || ok != (rank == n) {
			t.Fatalf("Definite = %v, %v, rank %d of %d", ok, e, rank, n)
		}
		l, d, e := matrix.Factor(g)
		if !ok {
			if l != nil || d != nil || e != api.ErrState {
				t.Fatalf("Factor = %v, %v, %v", l, d, e)
			}
			continue
		}
		checkFactors(t, g, l, d, e)
		x := random(r, 1, n)[0]
		q, e := matrix.Quad(g, x)
		column, _ := matrix.Turn(api.Mat{x})
		if want := product(product(api.Mat{x}, g), column)[0][0]; e != api.OK || !equal(q, want) {
			t.Fatalf("Quad = %v, %v", q, e)
		}
		zero := equalLists(x, make0(n))
		if (exact(q).Sign() > 0) == zero {
			t.Fatalf("Quad = %v of %v", q, x)
		}
	}
	for _, a := range []api.Mat{mat([]int{1, 2}, []int{3, 4}), mat([]int{1, 2}, []int{2, 1}), mat([]int{0}), mat([]int{-1}), mat([]int{1, 1}, []int{1, 1}), mat([]int{0, 1}, []int{1, 5})} {
		if ok, e := matrix.Definite(a); ok || e != api.OK {
			t.Errorf("Definite(%v) = %v, %v", a, ok, e)
		}
		if _, _, e := matrix.Factor(a); e != api.ErrState {
			t.Errorf("Factor(%v): %v", a, e)
		}
	}
}

func make0(n int) []api.Rat { return list(make([]int, n)...) }

func checkFactors(t *testing.T, g, l api.Mat, d []api.Rat, e api.Errno) {
	t.Helper()
	if e != api.OK || len(l) != len(g) || len(d) != len(g) {
		t.Fatalf("Factor = %v, %v, %v", l, d, e)
	}
	middle := one(len(g))
	product1 := big.NewRat(1, 1)
	for i := range d {
		middle[i][i] = d[i]
		product1.Mul(product1, exact(d[i]))
		if exact(d[i]).Sign() <= 0 || !equal(l[i][i], num(1, 1)) || !equalLists(l[i][i+1:], make0(len(g)-i-1)) {
			t.Fatalf("Factor = %v, %v", l, d)
		}
	}
	lt, _ := matrix.Turn(l)
	if !equalMats(product(product(l, middle), lt), g) || product1.Cmp(laplace(g)) != 0 {
		t.Fatalf("Factor = %v, %v", l, d)
	}
}

// P5.3: Quad of a matrix that is not symmetric.
func TestQuad(t *testing.T) {
	if q, e := matrix.Quad(mat([]int{1, 2}, []int{3, 4}), list(5, -7)); e != api.OK || !equal(q, num(25-175+196, 1)) {
		t.Errorf("Quad = %v, %v", q, e)
	}
}

// ErrType, behind the errors of Check, and of lists.
func TestTypes(t *testing.T) {
	wide, bad := mat([]int{1, 2, 3}), api.Mat{}
	a := mat([]int{1, 2}, []int{3, 4})
	_, e1 := matrix.Add(a, wide)
	_, e2 := matrix.Mul(a, wide)
	_, e3 := matrix.Det(wide)
	_, e4 := matrix.Inv(wide)
	_, e5 := matrix.Solve(a, list(1))
	_, e6 := matrix.Solve(wide, list(1))
	_, e7 := matrix.Definite(wide)
	_, _, e8 := matrix.Factor(wide)
	_, e9 := matrix.Quad(a, list(1, 2, 3))
	_, e10 := matrix.Quad(wide, list(1))
	_, e11 := matrix.Solve(a, nil)
	_, e12 := matrix.Add(mat([]int{1}, []int{2}), mat([]int{1, 2}))
	for i, e := range []api.Errno{e1, e2, e3, e4, e5, e6, e7, e8, e9, e10, e11, e12} {
		if e != api.ErrType {
			t.Errorf("%d: %v, want ErrType", i+1, e)
		}
	}
	_, e1 = matrix.Add(wide, bad)
	_, e2 = matrix.Mul(bad, wide)
	_, e3 = matrix.Det(bad)
	_, e4 = matrix.Inv(bad)
	_, e5 = matrix.Solve(bad, []api.Rat{{}})
	_, e6 = matrix.Rank(bad)
	_, e7 = matrix.Definite(bad)
	_, _, e8 = matrix.Factor(bad)
	_, e9 = matrix.Quad(bad, nil)
	_, e10 = matrix.Turn(bad)
	for i, e := range []api.Errno{e1, e2, e3, e4, e5, e6, e7, e8, e9, e10} {
		if e != api.ErrRange {
			t.Errorf("%d: %v, want ErrRange", i+1, e)
		}
	}
	_, e1 = matrix.Solve(a, []api.Rat{num(1, 1), num(1, 1), {}})
	_, e2 = matrix.Quad(wide, []api.Rat{{}})
	if e1 != api.ErrZero || e2 != api.ErrZero {
		t.Errorf("%v, %v, want ErrZero", e1, e2)
	}
}

// power returns 2^n, less one.
func power(n uint) api.Rat {
	return of(new(big.Rat).SetInt(new(big.Int).Sub(new(big.Int).Lsh(big.NewInt(1), n), big.NewInt(1))))
}

// ErrOver is for results alone: what lies before them may be longer.
func TestLongWay(t *testing.T) {
	p, q := power(8000), power(7919)
	minus, _ := rat.Neg(p)
	if m, e := matrix.Mul(api.Mat{{p}}, api.Mat{{q}}); m != nil || e != api.ErrOver {
		t.Errorf("Mul = %v, %v", m, e)
	}
	m, e := matrix.Mul(api.Mat{{p, minus, num(1, 2)}}, api.Mat{{q}, {q}, {num(6, 1)}})
	if e != api.OK || !equal(m[0][0], num(3, 1)) {
		t.Errorf("Mul = %v, %v", m, e)
	}
	d, e := matrix.Det(api.Mat{{p, q}, {p, q}})
	if e != api.OK || !equal(d, num(0, 1)) {
		t.Errorf("Det = %v, %v", d, e)
	}
	if d, e := matrix.Det(api.Mat{{p, num(0, 1)}, {num(0, 1), q}}); e != api.ErrOver || !reflect.DeepEqual(d, api.Rat{}) {
		t.Errorf("Det = %v, %v", d, e)
	}
	inv, e := matrix.Inv(api.Mat{{p, num(0, 1)}, {num(0, 1), q}})
	if e != api.OK || !equalMats(product(inv, api.Mat{{p, num(0, 1)}, {num(0, 1), q}}), one(2)) {
		t.Errorf("Inv = %v, %v", inv, e)
	}
	if r, e := matrix.Rank(api.Mat{{p, q}, {q, p}}); r != 2 || e != api.OK {
		t.Errorf("Rank = %v, %v", r, e)
	}
	if ok, e := matrix.Definite(api.Mat{{p, num(1, 1)}, {num(1, 1), p}}); !ok || e != api.OK {
		t.Errorf("Definite = %v, %v", ok, e)
	}
	if v, e := matrix.Quad(api.Mat{{p, minus}, {minus, p}}, []api.Rat{q, q}); e != api.OK || !equal(v, num(0, 1)) {
		t.Errorf("Quad = %v, %v", v, e)
	}
	if v, e := matrix.Quad(api.Mat{{p}}, []api.Rat{q}); e != api.ErrOver || !reflect.DeepEqual(v, api.Rat{}) {
		t.Errorf("Quad = %v, %v", v, e)
	}
	if m, e := matrix.Add(api.Mat{{power(8192)}}, api.Mat{{num(1, 1)}}); m != nil || e != api.ErrOver {
		t.Errorf("Add = %v, %v", m, e)
	}
}

// TestGreatest takes matrices of 24 rows.
func TestGreatest(t *testing.T) {
	l := make([][]int, 24)
	for i := range l {
		l[i] = make([]int, 24)
		for k := range l[i] {
			l[i][k] = (i*i*7 + k*k*k*5 + i*k) % 23
		}
		l[i][i] += 100
	}
	a, _ := matrix.Ints(l)
	inv, e := matrix.Inv(a)
	if e != api.OK {
		t.Fatal(e)
	}
	p, e := matrix.Mul(a, inv)
	if e != api.OK || !equalMats(p, one(24)) {
		t.Errorf("Mul of a matrix and its inverse: %v", e)
	}
	if rank, e := matrix.Rank(a); rank != 24 || e != api.OK {
		t.Errorf("Rank = %d, %v", rank, e)
	}
}

// DOC.md, R4: results share no memory with arguments.
func TestMemory(t *testing.T) {
	a := mat([]int{2, 1}, []int{1, 2})
	before := mat([]int{2, 1}, []int{1, 2})
	zero := mat([]int{0, 0}, []int{0, 0})
	sum, _ := matrix.Add(a, zero)
	p, _ := matrix.Mul(a, one(2))
	turned, _ := matrix.Turn(a)
	inv, _ := matrix.Inv(a)
	for _, m := range []api.Mat{sum, p, turned, inv} {
		for _, row := range m {
			for k := range row {
				row[k].Num[0] += 7
				row[k].Den[0] += 7
			}
		}
	}
	if !reflect.DeepEqual(a, before) {
		t.Errorf("%v became %v", before, a)
	}
}
