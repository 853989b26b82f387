package ambig

import (
	"slices"

	"skyfix/api"
	"skyfix/exact"
)

// square is a square matrix of integers.
type square [][]exact.Int

// dot returns the sum of the products of the elements of two lists.
func dot(a, b []exact.Int) exact.Int {
	sum := exact.Int{}
	for i, x := range a {
		sum = sum.Add(x.Mul(b[i]))
	}
	return sum
}

// quad returns x*m*x.
func (m square) quad(x []exact.Int) exact.Int {
	sum := exact.Int{}
	for i, row := range m {
		sum = sum.Add(x[i].Mul(dot(row, x)))
	}
	return sum
}

// clear makes the entries of the column k 0 in the rows from first on, apart from the row k; the entries stay integers if the columns before were cleared so, the last one with the pivot last.
func (m square) clear(k, first int, last exact.Int) {
	pivot := m[k][k]
	for j := first; j < len(m); j++ {
		if j == k {
			continue
		}
		factor := m[j][k]
		for c := range m[j] {
			m[j][c] = pivot.Mul(m[j][c]).Sub(factor.Mul(m[k][c])).Over(last)
		}
	}
}

// adjugate returns the matrix that, divided by the determinant, is the inverse of a positive definite one.
func (m square) adjugate() (adj square, det exact.Int) {
	joined := make(square, len(m))
	for i, row := range m {
		unit := make([]exact.Int, len(m))
		unit[i] = exact.Of(1)
		joined[i] = slices.Concat(row, unit)
	}
	det = exact.Of(1)
	for k := range joined {
		joined.clear(k, 0, det)
		det = joined[k][k]
	}
	for _, row := range joined {
		adj = append(adj, row[len(m):])
	}
	return adj, det
}

// estimate is a target (numerators over scale) with a form, whose value is a norm when it is multiplied by num/den.
type estimate struct {
	target   []exact.Int
	scale    exact.Int
	form     square
	num, den exact.Int
}

// opened returns a valid estimate.
func opened(a []api.Rat, q api.Mat) estimate {
	var x estimate
	x.target, x.scale = exact.Common(a)
	entries, common := exact.Common(slices.Concat(q...))
	adj, det := square(slices.Collect(slices.Chunk(entries, len(a)))).adjugate()
	factor := exact.Int{}
	for _, n := range slices.Concat(adj...) {
		factor = exact.Gcd(factor, n)
	}
	for _, row := range adj {
		for k := range row {
			row[k] = row[k].Over(factor)
		}
	}
	x.form, x.num, x.den = adj, common.Mul(factor), det
	return x
}

// far returns by how much, times scale, integers differ from the target.
func (x estimate) far(z []exact.Int) []exact.Int {
	w := make([]exact.Int, len(z))
	for i, n := range z {
		w[i] = x.scale.Mul(n).Sub(x.target[i])
	}
	return w
}

// norm returns the norm of a list.
func (x estimate) norm(z []exact.Int) (api.Rat, api.Errno) {
	value := x.form.quad(x.far(z))
	return exact.Rat(value.Mul(x.num), x.den.Mul(x.scale).Mul(x.scale))
}

// integers returns the list of integers that has these coordinates.
func (x estimate) integers(y []exact.Int) []exact.Int {
	return y
}

// turned is an estimate in the coordinates of a reduced basis.
type turned struct {
	estimate
	turn square
}

// wide returns a matrix of integers.
func wide(m [][]int) square {
	out := make(square, len(m))
	for i, row := range m {
		for _, n := range row {
			out[i] = append(out[i], exact.Of(n))
		}
	}
	return out
}

// times returns the row x*m.
func (m square) times(x []exact.Int) []exact.Int {
	out := make([]exact.Int, len(m[0]))
	for k := range out {
		for i, n := range x {
			out[k] = out[k].Add(n.Mul(m[i][k]))
		}
	}
	return out
}

// turned returns the estimate in the coordinates of a reduced basis.
func (x estimate) turned(r api.Reduced) turned {
	t := turned{x, wide(r.Turn)}
	t.target = wide(r.Back).times(x.target)
	t.form = make(square, len(x.form))
	for i := range t.form {
		row := x.form.times(t.turn[i])
		for k := range t.form {
			t.form[i] = append(t.form[i], dot(row, t.turn[k]))
		}
	}
	return t
}

// integers returns the list of integers that has these coordinates.
func (t turned) integers(y []exact.Int) []exact.Int {
	return t.turn.times(t.estimate.integers(y))
}
