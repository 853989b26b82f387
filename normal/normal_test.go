package normal_test

import (
	"math/big"
	"math/rand/v2"
	"reflect"
	"testing"

	"skyfix/api"
	"skyfix/normal"
	"skyfix/rat"
)

func num(a, b int) api.Rat {
	r, _ := rat.Of(a, b)
	return r
}

// list reads numbers.
func list(texts ...string) []api.Rat {
	l := []api.Rat{}
	for _, s := range texts {
		x, _ := rat.Parse(s)
		l = append(l, x)
	}
	return l
}

func value(a api.Rat) *big.Rat {
	text, _ := rat.Text(a)
	x, _ := new(big.Rat).SetString(text)
	return x
}

func equalLists(a, b []api.Rat) bool {
	for i := range a {
		if i >= len(b) || value(a[i]).Cmp(value(b[i])) != 0 {
			return false
		}
	}
	return len(a) == len(b)
}

func equalMats(a, b api.Mat) bool {
	for i := range a {
		if i >= len(b) || !equalLists(a[i], b[i]) {
			return false
		}
	}
	return len(a) == len(b)
}

// whole is an integer as a rational number.
func whole(n int) *big.Rat { return new(big.Rat).SetInt64(int64(n)) }

// sum adds up the values of all indices.
func sum(n int, f func(i int) *big.Rat) *big.Rat {
	s := new(big.Rat)
	for i := range n {
		s.Add(s, f(i))
	}
	return s
}

func mul(l ...*big.Rat) *big.Rat {
	p := whole(1)
	for _, x := range l {
		p.Mul(p, x)
	}
	return p
}

// random returns a design and observations; now and then the entries are the greatest ones.
func random(r *rand.Rand) (a [][]int, w []int, y []api.Rat) {
	n, m := 1+r.IntN(8), 1+r.IntN(5)
	size := []int{5, 1000, 1 << 40}[r.IntN(3)]
	for range n {
		row := make([]int, m)
		for k := range row {
			row[k] = r.IntN(2*size+1) - size
		}
		a = append(a, row)
		w = append(w, 1+r.IntN([]int{1, 10, 1000000}[r.IntN(3)]))
		y = append(y, num(r.IntN(2001)-1000, 1+r.IntN(20)))
	}
	return a, w, y
}

// applied returns the sum of a[i][k]*x[k].
func applied(row []int, x []api.Rat) *big.Rat {
	return sum(len(x), func(k int) *big.Rat { return mul(whole(row[k]), value(x[k])) })
}

// P6.2, P6.4, P6.5: the fit is what the definitions say.
func TestFit(t *testing.T) {
	r := rand.New(rand.NewPCG(6, 1))
	solved := 0
	for range 300 {
		a, w, y := random(r)
		f, e := normal.Solve(a, w, y)
		if e == api.ErrSingular {
			if len(a) >= len(a[0])+2 {
				t.Fatalf("%v is not likely to be singular", a)
			}
			if !reflect.DeepEqual(f, api.Fit{}) {
				t.Fatal("there is a result beside an error")
			}
			continue
		}
		if e != api.OK {
			t.Fatal(e)
		}
		solved++
		checkFit(t, a, w, y, f)
		checkShape(t, a, w, y, f)
	}
	if solved < 100 {
		t.Errorf("only %d of 300 designs are solved", solved)
	}
}

// checkFit checks the unknowns and residuals of a fit, and the misfit.
func checkFit(t *testing.T, a [][]int, w []int, y []api.Rat, f api.Fit) {
	t.Helper()
	misfit := new(big.Rat)
	for i, row := range a {
		if new(big.Rat).Sub(value(y[i]), applied(row, f.X)).Cmp(value(f.Resid[i])) != 0 {
			t.Fatalf("Resid = %v", f.Resid)
		}
		misfit.Add(misfit, mul(whole(w[i]), value(f.Resid[i]), value(f.Resid[i])))
	}
	for k := range a[0] {
		s := sum(len(a), func(i int) *big.Rat { return mul(whole(a[i][k]), whole(w[i]), value(f.Resid[i])) })
		if s.Sign() != 0 {
			t.Fatalf("the residuals are not orthogonal to the column %d", k)
		}
	}
	if got, e := normal.Misfit(a, w, y); e != api.OK || value(got).Cmp(misfit) != 0 {
		t.Fatalf("Misfit = %v, %v, want %v", got, e, misfit)
	}
}

// checkShape checks the covariance, the influence and the projector.
func checkShape(t *testing.T, a [][]int, w []int, y []api.Rat, f api.Fit) {
	t.Helper()
	cov, s, e := normal.Shape(a, w)
	p, e2 := normal.Project(a, w)
	if e != api.OK || e2 != api.OK || !equalMats(cov, f.Cov) || !equalMats(s, f.Shape) {
		t.Fatalf("Shape, Project: %v, %v", e, e2)
	}
	for k := range cov {
		for j := range cov {
			// The covariance times the normal matrix is the identity.
			got := sum(len(cov), func(l int) *big.Rat {
				return mul(value(cov[k][l]), sum(len(a), func(i int) *big.Rat { return mul(whole(a[i][l]), whole(w[i]), whole(a[i][j])) }))
			})
			sa := sum(len(a), func(i int) *big.Rat { return mul(value(s[k][i]), whole(a[i][j])) })
			want := whole(0)
			if k == j {
				want = whole(1)
			}
			if got.Cmp(want) != 0 || sa.Cmp(want) != 0 {
				t.Fatalf("Shape = %v, %v", cov, s)
			}
		}
		if sy := sum(len(a), func(i int) *big.Rat { return mul(value(s[k][i]), value(y[i])) }); sy.Cmp(value(f.X[k])) != 0 {
			t.Fatalf("X = %v", f.X)
		}
	}
	for i := range a {
		for j := range a {
			want := whole(0)
			if i == j {
				want = whole(1)
			}
			want.Sub(want, sum(len(cov), func(k int) *big.Rat { return mul(whole(a[i][k]), value(s[k][j])) }))
			if value(p[i][j]).Cmp(want) != 0 {
				t.Fatalf("Project = %v", p)
			}
		}
	}
}

// P6.3, P6.7: Without, and observations that are added.
func TestWithout(t *testing.T) {
	r := rand.New(rand.NewPCG(6, 2))
	for range 60 {
		a, w, y := random(r)
		for i := range a {
			b, v, z := [][]int{}, []int{}, []api.Rat{}
			for j := range a {
				if j != i {
					b, v, z = append(b, a[j]), append(v, w[j]), append(z, y[j])
				}
			}
			want, e := normal.Solve(b, v, z)
			if len(a) == 1 {
				e = api.ErrSingular
			}
			if got, e2 := normal.Without(a, w, y, i); e != e2 || !reflect.DeepEqual(got, want) {
				t.Fatalf("Without(.., %d) = %v, %v, want %v, %v", i, got, e2, want, e)
			}
		}
		f, e := normal.Solve(a, w, y)
		if e != api.OK {
			continue
		}
		more := rand.New(rand.NewPCG(6, 3))
		row := make([]int, len(a[0]))
		for k := range row {
			row[k] = more.IntN(7) - 3
		}
		fitted, _ := rat.Parse(applied(row, f.X).RatString())
		g, e := normal.Solve(append(a, row), append(w, 5), append(y, fitted))
		if e != api.OK || !equalLists(f.X, g.X) || !equalLists(append(f.Resid, num(0, 1)), g.Resid) {
			t.Fatalf("an observation that fits changes %v to %v, %v", f.X, g.X, e)
		}
	}
}

// P6.6: multiplied weights, and linearity.
func TestLinear(t *testing.T) {
	r := rand.New(rand.NewPCG(6, 4))
	for range 60 {
		a, w, y := random(r)
		f, e := normal.Solve(a, w, y)
		if e != api.OK {
			continue
		}
		heavy, z, both := []int{}, []api.Rat{}, []api.Rat{}
		for i := range w {
			heavy = append(heavy, w[i]%1000*7+7)
			w[i] = w[i]%1000 + 1
			z = append(z, num(i*i-3, 7))
			part, _ := rat.Mul(num(2, 3), z[i])
			s, _ := rat.Add(y[i], part)
			both = append(both, s)
		}
		f, _ = normal.Solve(a, w, y)
		g, _ := normal.Solve(a, heavy, y)
		if !equalLists(f.X, g.X) || !equalLists(f.Resid, g.Resid) {
			t.Fatal("multiplied weights change the fit")
		}
		g, _ = normal.Solve(a, w, z)
		h, _ := normal.Solve(a, w, both)
		for k := range f.X {
			if new(big.Rat).Add(value(f.X[k]), mul(big.NewRat(2, 3), value(g.X[k]))).Cmp(value(h.X[k])) != 0 {
				t.Fatal("X is not linear")
			}
		}
	}
}

// The examples of the chapter.
func TestExamples(t *testing.T) {
	a, ones, y := [][]int{{1, 0}, {1, 1}, {1, 2}}, []int{1, 1, 1}, list("1", "2", "4")
	f, e := normal.Solve(a, ones, y)
	m, e2 := normal.Misfit(a, ones, y)
	if e != api.OK || e2 != api.OK || !equalLists(f.X, list("5/6", "3/2")) || !equalLists(f.Resid, list("1/6", "-1/3", "1/6")) || value(m).Cmp(big.NewRat(1, 6)) != 0 {
		t.Errorf("Solve = %v, %v", f, e)
	}
	if !equalMats(f.Cov, api.Mat{list("5/6", "-1/2"), list("-1/2", "1/2")}) || !equalMats(f.Shape, api.Mat{list("5/6", "1/3", "-1/6"), list("-1/2", "0", "1/2")}) {
		t.Errorf("Solve = %v", f)
	}
	if p, e := normal.Project(a, ones); e != api.OK || !equalLists(p[0], list("1/6", "-1/3", "1/6")) {
		t.Errorf("Project = %v, %v", p, e)
	}
	if f, e := normal.Without(a, ones, y, 2); e != api.OK || !equalLists(f.X, list("1", "1")) {
		t.Errorf("Without = %v, %v", f, e)
	}
	b, w, z := [][]int{{1}, {1}}, []int{1, 3}, list("0", "4")
	f, e = normal.Without(b, w, z, 0)
	if e != api.OK || !equalLists(f.X, list("4")) || !equalMats(f.Cov, api.Mat{list("1/3")}) {
		t.Errorf("Without = %v, %v", f, e)
	}
}

// P6.1, P6.2, P6.3: the errors, in their order.
func TestErrors(t *testing.T) {
	y := list("0", "0")
	many := make([][]int, 25)
	const great = 1<<40 + 1
	for i, x := range []struct {
		a [][]int
		w []int
		y []api.Rat
		e api.Errno // of Check, or of Solve
	}{
		{nil, nil, nil, api.ErrRange}, {many, nil, nil, api.ErrRange}, {[][]int{{}}, nil, nil, api.ErrRange}, {[][]int{make([]int, 7)}, nil, nil, api.ErrRange},
		{[][]int{{1}, {1, great}}, nil, nil, api.ErrForm}, {[][]int{{great}, {1, 2}}, nil, nil, api.ErrRange}, {[][]int{{1}, {-great}}, nil, nil, api.ErrRange},
		{[][]int{{1}, {1}}, []int{0}, nil, api.ErrType}, {[][]int{{1}, {1}}, []int{1, 0}, nil, api.ErrRange}, {[][]int{{1}, {1}}, []int{1, 1000001}, nil, api.ErrRange},
		{[][]int{{1}, {1}}, []int{1, 1}, []api.Rat{{}}, api.ErrType}, {[][]int{{1}, {1}}, []int{1, 1}, []api.Rat{num(1, 1), {}}, api.ErrZero},
		{[][]int{{1, 2}, {2, 4}}, []int{1, 1}, y, api.ErrSingular}, {[][]int{{0}, {0}}, []int{1, 1}, y, api.ErrSingular}, {[][]int{{1, 2, 3}, {2, 4, 5}}, []int{1, 1}, y, api.ErrSingular},
	} {
		f, e1 := normal.Solve(x.a, x.w, x.y)
		m, e2 := normal.Misfit(x.a, x.w, x.y)
		g, e3 := normal.Without(x.a, x.w, x.y, 5)
		wantWithout := x.e
		if x.e == api.ErrSingular {
			wantWithout = api.ErrRange
		}
		if e1 != x.e || e2 != x.e || e3 != wantWithout || !reflect.DeepEqual([]any{f, m, g}, []any{api.Fit{}, api.Rat{}, api.Fit{}}) {
			t.Errorf("%d: %v, %v, %v, want %v", i, e1, e2, e3, x.e)
		}
		cov, s, e4 := normal.Shape(x.a, x.w)
		p, e5 := normal.Project(x.a, x.w)
		if len(x.y) == 0 || x.e == api.ErrSingular {
			if e4 != x.e || e5 != x.e || cov != nil || s != nil || p != nil {
				t.Errorf("%d: %v, %v, want %v", i, e4, e5, x.e)
			}
		}
		if want := x.e; len(x.y) == 0 && normal.Check(x.a, x.w) != want {
			t.Errorf("%d: Check = %v", i, normal.Check(x.a, x.w))
		}
	}
	for _, i := range []int{-1, 2, 1 << 62} {
		if _, e := normal.Without([][]int{{1}, {1}}, []int{1, 1}, y, i); e != api.ErrRange {
			t.Errorf("Without(.., %d): %v", i, e)
		}
	}
	if _, e := normal.Without([][]int{{1}}, []int{1}, y[:1], 0); e != api.ErrSingular {
		t.Errorf("Without of the only row: %v", e)
	}
}

// part returns 1/(2^n - 1).
func part(n uint) api.Rat {
	x, _ := rat.Parse(new(big.Rat).SetFrac(big.NewInt(1), new(big.Int).Sub(new(big.Int).Lsh(big.NewInt(1), n), big.NewInt(1))).RatString())
	return x
}

// ErrOver is for numbers of the result alone.
func TestOver(t *testing.T) {
	a, w := [][]int{{1}, {1}}, []int{1, 1}
	p, q := part(7919), part(7907)
	if f, e := normal.Solve(a, w, []api.Rat{p, q}); e != api.ErrOver || !reflect.DeepEqual(f, api.Fit{}) {
		t.Errorf("Solve = %v", e)
	}
	minus, _ := rat.Neg(p)
	if _, e := normal.Solve([][]int{{1, 0}, {1, 0}, {0, 1}}, []int{1, 1, 1}, []api.Rat{p, minus, q}); e != api.OK {
		t.Errorf("Solve = %v", e)
	}
	y := []api.Rat{p, p, q}
	if f, e := normal.Solve([][]int{{1, 0}, {1, 0}, {0, 1}}, []int{1, 1, 1}, y); e != api.OK || !equalLists(f.X, []api.Rat{p, q}) {
		t.Errorf("Solve = %v, %v", f, e)
	}
	if _, e := normal.Misfit([][]int{{1}, {1}}, w, []api.Rat{p, minus}); e != api.ErrOver {
		t.Errorf("Misfit: %v", e)
	}
	if m, e := normal.Misfit([][]int{{1}, {1}}, w, []api.Rat{p, p}); e != api.OK || value(m).Sign() != 0 {
		t.Errorf("Misfit = %v, %v", m, e)
	}
}
