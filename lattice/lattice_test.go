package lattice_test

import (
	"math/big"
	"math/rand/v2"
	"reflect"
	"slices"
	"testing"

	"skyfix/api"
	"skyfix/lattice"
	"skyfix/matrix"
	"skyfix/rat"
)

func ints(rows ...[]int) api.Mat {
	m, _ := matrix.Ints(rows)
	return m
}

func value(a api.Rat) *big.Rat {
	text, _ := rat.Text(a)
	x, _ := new(big.Rat).SetString(text)
	return x
}

func of(x *big.Rat) api.Rat {
	a, _ := rat.Parse(x.RatString())
	return a
}

func values(a api.Mat) [][]*big.Rat {
	m := make([][]*big.Rat, len(a))
	for i, row := range a {
		for _, x := range row {
			m[i] = append(m[i], value(x))
		}
	}
	return m
}

// form returns a positive definite matrix of d rows.
func form(r *rand.Rand, d int) api.Mat {
	m := make([][]*big.Rat, d)
	l := make([][]*big.Rat, d)
	for i := range l {
		m[i] = make([]*big.Rat, d)
		for range d {
			l[i] = append(l[i], big.NewRat(int64(r.IntN(9)-4), int64(1+r.IntN(3))))
		}
		l[i][i] = big.NewRat(int64(10+r.IntN(50)), int64(1+r.IntN(3)))
		for k := range i {
			l[k][i] = new(big.Rat)
		}
	}
	out := make(api.Mat, d)
	for i := range m {
		for k := range m {
			m[i][k] = new(big.Rat)
			for j := range d {
				m[i][k].Add(m[i][k], new(big.Rat).Mul(l[i][j], l[k][j]))
			}
			out[i] = append(out[i], of(m[i][k]))
		}
	}
	return out
}

// basis returns independent rows.
func basis(r *rand.Rand, n, d int) [][]int {
	size := []int{3, 100, 1000000}[r.IntN(3)]
	for {
		b := make([][]int, n)
		for i := range b {
			for range d {
				b[i] = append(b[i], r.IntN(2*size+1)-size)
			}
		}
		if rank, _ := matrix.Rank(ints(b...)); rank == n {
			return b
		}
	}
}

// times returns the product of two rows by a form.
func times(g [][]*big.Rat, x, y []int) *big.Rat {
	sum := new(big.Rat)
	for i := range x {
		for k := range y {
			p := big.NewRat(int64(x[i]), 1)
			sum.Add(sum, p.Mul(p, new(big.Rat).Mul(g[i][k], big.NewRat(int64(y[k]), 1))))
		}
	}
	return sum
}

// orthogonal returns the coefficients and norms by their definition: c[k] as a list of factors of the rows.
func orthogonal(g [][]*big.Rat, b [][]int) (mu [][]*big.Rat, norms []*big.Rat) {
	n := len(b)
	gram := make([][]*big.Rat, n)
	for i := range b {
		for k := range b {
			gram[i] = append(gram[i], times(g, b[i], b[k]))
		}
	}
	dot := func(x, y []*big.Rat) *big.Rat {
		sum := new(big.Rat)
		for i := range n {
			for k := range n {
				p := new(big.Rat).Mul(x[i], y[k])
				sum.Add(sum, p.Mul(p, gram[i][k]))
			}
		}
		return sum
	}
	unit := func(k int) []*big.Rat {
		l := make([]*big.Rat, n)
		for i := range l {
			l[i] = new(big.Rat)
		}
		l[k].SetInt64(1)
		return l
	}
	var c [][]*big.Rat
	for k := range b {
		mu = append(mu, unit(k))
		x := unit(k)
		for j := range k {
			mu[k][j] = new(big.Rat).Quo(dot(unit(k), c[j]), norms[j])
			for i := range x {
				x[i].Sub(x[i], new(big.Rat).Mul(mu[k][j], c[j][i]))
			}
		}
		c = append(c, x)
		norms = append(norms, dot(x, x))
	}
	return mu, norms
}

// rounded returns the nearest integer, halves away from 0.
func rounded(x *big.Rat) int {
	q := new(big.Int).Lsh(new(big.Int).Abs(x.Num()), 1)
	q.Add(q, x.Denom()).Quo(q, new(big.Int).Lsh(x.Denom(), 1))
	if x.Sign() < 0 {
		q.Neg(q)
	}
	return int(q.Int64())
}

// ordered reports whether N[k] is at least (3/4 - mu[k][k-1]^2)*N[k-1].
func ordered(mu [][]*big.Rat, norms []*big.Rat, k int) bool {
	f := new(big.Rat).Sub(big.NewRat(3, 4), new(big.Rat).Mul(mu[k][k-1], mu[k][k-1]))
	return norms[k].Cmp(f.Mul(f, norms[k-1])) >= 0
}

// procedure is the procedure as it is described; no number becomes too great.
func procedure(g [][]*big.Rat, b [][]int) (rows, turn [][]int) {
	for i, row := range b {
		rows = append(rows, slices.Clone(row))
		turn = append(turn, make([]int, len(b)))
		turn[i][i] = 1
	}
	for k := 1; k < len(b); {
		for j := k - 1; j >= 0; j-- {
			mu, _ := orthogonal(g, rows)
			q := rounded(mu[k][j])
			for i := range rows[k] {
				rows[k][i] -= q * rows[j][i]
			}
			for i := range turn[k] {
				turn[k][i] -= q * turn[j][i]
			}
		}
		mu, norms := orthogonal(g, rows)
		if ordered(mu, norms, k) {
			k++
			continue
		}
		rows[k], rows[k-1] = rows[k-1], rows[k]
		turn[k], turn[k-1] = turn[k-1], turn[k]
		k = max(k-1, 1)
	}
	return rows, turn
}

func isReduced(g [][]*big.Rat, b [][]int) bool {
	mu, norms := orthogonal(g, b)
	for k := range b {
		for j := range k {
			if new(big.Rat).Abs(mu[k][j]).Cmp(big.NewRat(1, 2)) > 0 {
				return false
			}
		}
		if k > 0 && !ordered(mu, norms, k) {
			return false
		}
	}
	return true
}

func product(a, b [][]int) [][]int {
	m := make([][]int, len(a))
	for i := range a {
		m[i] = make([]int, len(b[0]))
		for k := range b {
			for j := range b[0] {
				m[i][j] += a[i][k] * b[k][j]
			}
		}
	}
	return m
}

func identity(n int) [][]int {
	m := make([][]int, n)
	for i := range m {
		m[i] = make([]int, n)
		m[i][i] = 1
	}
	return m
}

// P7.2: Gram, Orth and Is.
func TestOrth(t *testing.T) {
	r := rand.New(rand.NewPCG(7, 1))
	for range 80 {
		d := 1 + r.IntN(5)
		n := 1 + r.IntN(d)
		g, b := form(r, d), basis(r, n, d)
		gram, e := lattice.Gram(g, b)
		if e != api.OK || len(gram) != n {
			t.Fatal(e)
		}
		for i := range b {
			for k := range b {
				if value(gram[i][k]).Cmp(times(values(g), b[i], b[k])) != 0 {
					t.Fatalf("Gram = %v", gram)
				}
			}
		}
		mu, norms, e := lattice.Orth(g, b)
		wantMu, wantNorms := orthogonal(values(g), b)
		if e != api.OK || len(mu) != n || len(norms) != n {
			t.Fatal(e)
		}
		for i := range mu {
			for k := range mu {
				if value(mu[i][k]).Cmp(wantMu[i][k]) != 0 {
					t.Fatalf("Orth = %v", mu)
				}
			}
			if value(norms[i]).Cmp(wantNorms[i]) != 0 {
				t.Fatalf("Orth = %v", norms)
			}
		}
		if is, e := lattice.Is(g, b); e != api.OK || is != isReduced(values(g), b) {
			t.Fatalf("Is(%v) = %v, %v", b, is, e)
		}
	}
}

// P7.3, P7.5 to P7.8: the procedure.
func TestReduce(t *testing.T) {
	r := rand.New(rand.NewPCG(7, 2))
	for range 40 {
		d := 1 + r.IntN(4)
		n := 1 + r.IntN(d)
		g, b := form(r, d), basis(r, n, d)
		before := product(identity(n), b)
		got, e := lattice.Reduce(g, b)
		if e != api.OK || !reflect.DeepEqual(b, before) {
			t.Fatal(e)
		}
		rows, turn := procedure(values(g), b)
		if !reflect.DeepEqual(got.Basis, rows) || !reflect.DeepEqual(got.Turn, turn) {
			t.Fatalf("Reduce = %v, want %v, %v", got, rows, turn)
		}
		if !reflect.DeepEqual(product(got.Turn, got.Back), identity(n)) || !reflect.DeepEqual(product(got.Back, rows), b) {
			t.Fatalf("Back = %v", got.Back)
		}
		if ok, e := lattice.Certify(g, b, got); !ok || e != api.OK {
			t.Fatalf("Certify = %v, %v", ok, e)
		}
		great := slices.ContainsFunc(slices.Concat(rows...), func(x int) bool { return x < -api.MaxEntry || x > api.MaxEntry })
		if ok, e := lattice.Is(g, rows); ok == great || (e == api.ErrRange) != great {
			t.Fatalf("Is = %v, %v", ok, e)
		}
		checkNorms(t, r, values(g), b, rows)
	}
}

// checkNorms checks that the determinant stays, and that the first row is short.
func checkNorms(t *testing.T, r *rand.Rand, g [][]*big.Rat, b, rows [][]int) {
	t.Helper()
	_, old := orthogonal(g, b)
	_, norms := orthogonal(g, rows)
	p, q := big.NewRat(1, 1), big.NewRat(1, 1)
	for i := range norms {
		p.Mul(p, old[i])
		q.Mul(q, norms[i])
	}
	if p.Cmp(q) != 0 {
		t.Fatalf("the determinant %v becomes %v", p, q)
	}
	for range 20 {
		x := make([]int, len(b[0]))
		for i := range rows {
			f := r.IntN(5) - 2
			for k := range x {
				x[k] += f * rows[i][k]
			}
		}
		norm := times(g, x, x)
		limit := new(big.Rat).Mul(norm, big.NewRat(int64(1)<<(len(b)-1), 1))
		if norm.Sign() > 0 && times(g, rows[0], rows[0]).Cmp(limit) > 0 {
			t.Fatalf("the row %v is much shorter than the first one", x)
		}
	}
}

// The examples of the chapter.
func TestExamples(t *testing.T) {
	e := ints([]int{1, 0}, []int{0, 1})
	for _, x := range []struct{ b, basis, turn, back [][]int }{
		{[][]int{{1, 0}, {4, 1}}, [][]int{{1, 0}, {0, 1}}, [][]int{{1, 0}, {-4, 1}}, [][]int{{1, 0}, {4, 1}}},
		{[][]int{{3, 1}, {5, 2}}, [][]int{{-1, 0}, {0, 1}}, [][]int{{-2, 1}, {-5, 3}}, [][]int{{-3, 1}, {-5, 2}}},
	} {
		if r, err := lattice.Reduce(e, x.b); err != api.OK || !reflect.DeepEqual(r, api.Reduced{Basis: x.basis, Turn: x.turn, Back: x.back}) {
			t.Errorf("Reduce = %v, %v", r, err)
		}
	}
	for _, x := range []struct {
		b    [][]int
		want bool
	}{{[][]int{{1, 0}, {0, 1}}, true}, {[][]int{{2, 0}, {1, 2}}, true}, {[][]int{{2, 0}, {1, 1}}, false}, {[][]int{{2, 0}, {0, 1}}, false}, {[][]int{{2, 0}, {3, 2}}, false}, {[][]int{{5, 0}}, true}} {
		if is, err := lattice.Is(e, x.b); is != x.want || err != api.OK {
			t.Errorf("Is(%v) = %v, %v", x.b, is, err)
		}
	}
}

// P7.1: the errors, in their order.
func TestErrors(t *testing.T) {
	e := ints([]int{1, 0}, []int{0, 1})
	wide := ints([]int{1, 0})
	seven, _ := matrix.One(7)
	none := ints([]int{1, 2}, []int{2, 1})
	for i, x := range []struct {
		g    api.Mat
		b    [][]int
		want api.Errno
	}{
		{nil, nil, api.ErrRange}, {api.Mat{{{}}}, nil, api.ErrZero}, {wide, nil, api.ErrType}, {seven, nil, api.ErrRange},
		{none, nil, api.ErrRange}, {none, make([][]int, 7), api.ErrRange}, {none, [][]int{{1}}, api.ErrForm},
		{none, [][]int{{1, 1000001}, {1}}, api.ErrRange}, {none, [][]int{{1, -1000001}}, api.ErrRange}, {none, [][]int{{1, 2}, {1, 2, 3}}, api.ErrForm},
		{none, [][]int{{1, 2}, {2, 4}}, api.ErrState}, {e, [][]int{{1, 2}, {2, 4}}, api.ErrSingular}, {e, [][]int{{0, 0}}, api.ErrSingular},
		{e, [][]int{{1, 0}, {0, 1}, {1, 1}}, api.ErrSingular}, {e, [][]int{{1000000, -1000000}}, api.OK},
	} {
		if err := lattice.Check(x.g, x.b); err != x.want {
			t.Errorf("%d: Check = %v, want %v", i, err, x.want)
		}
		if x.want == api.OK {
			continue
		}
		gram, e1 := lattice.Gram(x.g, x.b)
		mu, norms, e2 := lattice.Orth(x.g, x.b)
		r, e3 := lattice.Reduce(x.g, x.b)
		is, e4 := lattice.Is(x.g, x.b)
		ok, e5 := lattice.Certify(x.g, x.b, api.Reduced{})
		for _, err := range []api.Errno{e1, e2, e3, e4, e5} {
			if err != x.want {
				t.Errorf("%d: %v, want %v", i, err, x.want)
			}
		}
		if gram != nil || mu != nil || norms != nil || r.Basis != nil || is || ok {
			t.Errorf("%d: there is a result beside an error", i)
		}
	}
}

// P7.1, P7.3: numbers that are too great.
func TestOver(t *testing.T) {
	long := new(big.Rat).SetInt(new(big.Int).Lsh(big.NewInt(1), 8190))
	g := api.Mat{{of(long), of(new(big.Rat))}, {of(new(big.Rat)), of(big.NewRat(1, 1))}}
	b := [][]int{{3, 0}, {0, 1}}
	if m, e := lattice.Gram(g, b); m != nil || e != api.ErrOver {
		t.Errorf("Gram: %v", e)
	}
	if m, n, e := lattice.Orth(g, b); m != nil || n != nil || e != api.ErrOver {
		t.Errorf("Orth: %v", e)
	}
	if is, e := lattice.Is(g, b); is || e != api.OK {
		t.Errorf("Is = %v, %v", is, e)
	}
	if r, e := lattice.Reduce(g, b); e != api.OK || !reflect.DeepEqual(r.Basis, [][]int{{0, 1}, {3, 0}}) {
		t.Errorf("Reduce = %v, %v", r, e)
	}
	// In this form the second row is near a multiple of the first one that is too great.
	tall := api.Mat{{of(big.NewRat(1, 1)), of(big.NewRat(2000000000, 1))}, {of(big.NewRat(2000000000, 1)), of(big.NewRat(4000000000000000001, 1))}}
	if r, e := lattice.Reduce(tall, [][]int{{1, 0}, {0, 1}}); e != api.ErrOver || !reflect.DeepEqual(r, api.Reduced{}) {
		t.Errorf("Reduce = %v, %v", r, e)
	}
}

// P7.4, P7.9: inverses of matrices of integers.
func TestInverse(t *testing.T) {
	r := rand.New(rand.NewPCG(7, 3))
	var last [][]int
	for range 60 {
		m := identity(3)
		for range 8 {
			i := r.IntN(3)
			k := (i + 1 + r.IntN(2)) % 3
			q := r.IntN(7) - 3
			for j := range m[i] {
				m[i][j] += q * m[k][j]
			}
		}
		inv, e := lattice.Inverse(m)
		if e != api.OK || !reflect.DeepEqual(product(m, inv), identity(3)) {
			t.Fatalf("Inverse(%v) = %v, %v", m, inv, e)
		}
		if back, e := lattice.Inverse(inv); e != api.OK || !reflect.DeepEqual(back, m) {
			t.Fatalf("Inverse(%v) = %v, %v", inv, back, e)
		}
		if last != nil {
			one, _ := lattice.Inverse(last)
			both, e := lattice.Inverse(product(last, m))
			if e != api.OK || !reflect.DeepEqual(both, product(inv, one)) {
				t.Fatalf("Inverse of a product = %v, %v", both, e)
			}
		}
		last = m
	}
	const great = 1000000000
	for i, x := range []struct {
		m [][]int
		e api.Errno
	}{
		{nil, api.ErrRange}, {make([][]int, 7), api.ErrRange}, {[][]int{{1, 2}}, api.ErrForm}, {[][]int{{great + 1, 0}, {1}}, api.ErrRange}, {[][]int{{1, -great - 1}, {1}}, api.ErrRange}, {[][]int{{1, 1}, {1}}, api.ErrForm},
		{[][]int{{2, 0}, {0, 1}}, api.ErrSingular}, {[][]int{{1, 1}, {1, 1}}, api.ErrSingular}, {[][]int{{0}}, api.ErrSingular}, {[][]int{{2}}, api.ErrSingular},
		{[][]int{{1, great, 0}, {0, 1, great}, {0, 0, 1}}, api.ErrOver}, {[][]int{{1, great}, {0, 1}}, api.OK}, {[][]int{{1, great, 0, 0}, {0, 1, great, 0}, {0, 0, 1, 0}, {0, 0, 0, 2}}, api.ErrSingular},
	} {
		if m, e := lattice.Inverse(x.m); e != x.e || (m == nil) != (e != api.OK) {
			t.Errorf("%d: Inverse = %v, %v, want %v", i, m, e, x.e)
		}
	}
}

// P7.5: Certify accepts any proof, and nothing else.
func TestCertify(t *testing.T) {
	g := ints([]int{1, 0}, []int{0, 1})
	b := [][]int{{3, 1}, {5, 2}}
	good := func() api.Reduced {
		return api.Reduced{Basis: [][]int{{0, 1}, {1, 0}}, Turn: [][]int{{-5, 3}, {2, -1}}, Back: [][]int{{1, 3}, {2, 5}}}
	}
	if ok, e := lattice.Certify(g, b, good()); !ok || e != api.OK {
		t.Fatalf("Certify = %v, %v", ok, e)
	}
	for i, change := range []func(r *api.Reduced){
		func(r *api.Reduced) { r.Basis[0][0] = 1 },
		func(r *api.Reduced) { r.Back[1][1] = 6 },
		func(r *api.Reduced) { r.Back = r.Back[:1] },
		func(r *api.Reduced) { r.Turn = r.Turn[:1] },
		func(r *api.Reduced) { r.Basis = r.Basis[:1] },
		func(r *api.Reduced) { r.Turn[0] = []int{-5} },
		func(r *api.Reduced) { r.Back[1] = nil },
		func(r *api.Reduced) { r.Basis[1] = []int{1, 0, 0} },
		func(r *api.Reduced) { *r = api.Reduced{} },
		func(r *api.Reduced) { r.Turn[0][0] = 1000000001 },
		func(r *api.Reduced) { *r = api.Reduced{Basis: b, Turn: identity(2), Back: identity(2)} },
		func(r *api.Reduced) { r.Turn, r.Basis = identity(2), b },
		func(r *api.Reduced) { r.Back[0][0] = -1 << 63 },
	} {
		r := good()
		change(&r)
		if ok, e := lattice.Certify(g, b, r); ok || e != api.OK {
			t.Errorf("%d: Certify = %v, %v", i, ok, e)
		}
	}
	// The rows span only a part of the lattice, though Turn times b is Basis.
	if ok, _ := lattice.Certify(g, identity(2), api.Reduced{Basis: [][]int{{2, 0}, {0, 2}}, Turn: [][]int{{2, 0}, {0, 2}}, Back: identity(2)}); ok {
		t.Error("Certify accepts a part of the lattice")
	}
}
