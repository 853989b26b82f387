package lattice

import (
	"slices"

	"skyfix/api"
	"skyfix/exact"
)

// state is a basis on its way, with the products of its rows, all of them multiplied by den so that they are integers. The rows have coefficients and determinants only once they are orthogonalised: the coefficient mu[k][j] is scaled[k][j]/dets[j], the norm N[k] is dets[k]/dets[k-1].
type state struct {
	rows, turn   [][]int
	gram, scaled [][]exact.Int
	dets         []exact.Int
	den          exact.Int
}

// started returns the state of a basis.
func started(g api.Mat, b [][]int) *state {
	form, den := exact.Common(slices.Concat(g...))
	s := &state{turn: identity(len(b)), den: den}
	n := len(b)
	s.dets = make([]exact.Int, n)
	for _, row := range b {
		s.rows = append(s.rows, slices.Clone(row))
		s.gram = append(s.gram, make([]exact.Int, n))
		s.scaled = append(s.scaled, make([]exact.Int, n))
	}
	for i, x := range b {
		for k, y := range b {
			for j := range x {
				part := exact.Int{}
				for l := range y {
					part = part.Add(form[j*len(g)+l].Mul(exact.Of(y[l])))
				}
				s.gram[i][k] = s.gram[i][k].Add(part.Mul(exact.Of(x[j])))
			}
		}
	}
	return s
}

// det returns the determinant of the products of the rows up to k; that of no rows is 1.
func (s *state) det(k int) exact.Int {
	if k < 0 {
		return exact.Of(1)
	}
	return s.dets[k]
}

// orthogonalise computes what belongs to the row k; the rows before are done.
func (s *state) orthogonalise(k int) {
	for j := range k + 1 {
		u := s.gram[k][j]
		for i := range j {
			u = s.dets[i].Mul(u).Sub(s.scaled[k][i].Mul(s.scaled[j][i])).Over(s.det(i - 1))
		}
		s.scaled[k][j] = u
	}
	s.dets[k] = s.scaled[k][k]
}

// coefficients returns the row k of mu.
func (s *state) coefficients(k int) ([]api.Rat, api.Errno) {
	row := make([]api.Rat, len(s.rows))
	for j := range row {
		num, den := exact.Int{}, exact.Of(1)
		if j <= k {
			num, den = s.scaled[k][j], s.dets[j]
		}
		var e api.Errno
		if row[j], e = exact.Rat(num, den); e != api.OK {
			return nil, e
		}
	}
	return row, api.OK
}

// subtract subtracts q times the row j from the row k, and reports whether all numbers stay small.
func (s *state) subtract(k, j int, q exact.Int) bool {
	n, ok := q.Int()
	if !ok || !bounded([]int{n}, maxNumber) {
		return false
	}
	addTimes(s.rows[k], s.rows[j], -n)
	addTimes(s.turn[k], s.turn[j], -n)
	for i := range s.gram {
		s.gram[k][i] = s.gram[k][i].Sub(q.Mul(s.gram[j][i]))
	}
	for i := range s.gram {
		s.gram[i][k] = s.gram[i][k].Sub(q.Mul(s.gram[i][j]))
	}
	for i := range j + 1 {
		s.scaled[k][i] = s.scaled[k][i].Sub(q.Mul(s.scaled[j][i]))
	}
	return bounded(s.rows[k], maxNumber) && bounded(s.turn[k], maxNumber)
}

// exchange exchanges the rows k and k-1.
func (s *state) exchange(k int) {
	for _, l := range [][][]int{s.rows, s.turn} {
		l[k], l[k-1] = l[k-1], l[k]
	}
	s.gram[k], s.gram[k-1] = s.gram[k-1], s.gram[k]
	for _, row := range s.gram {
		row[k], row[k-1] = row[k-1], row[k]
	}
}

// reduce carries out the procedure, and reports whether it does not fail.
func (s *state) reduce() bool {
	k := 1
procedure:
	for k < len(s.rows) {
		s.orthogonalise(k - 1)
		s.orthogonalise(k)
		for j := k - 1; j >= 0; j-- {
			if q := s.scaled[k][j].Round(s.dets[j]); q.Sign() != 0 && !s.subtract(k, j, q) {
				return false
			}
		}
		if s.ordered(k) {
			k++
			continue procedure
		}
		s.exchange(k)
		k = max(k-1, 1)
	}
	return true
}

// ordered reports whether N[k] is at least (3/4 - mu[k][k-1]^2)*N[k-1].
func (s *state) ordered(k int) bool {
	mu, last := s.scaled[k][k-1], s.dets[k-1]
	left := exact.Of(4).Mul(s.dets[k]).Mul(s.det(k - 2))
	right := exact.Of(3).Mul(last).Mul(last).Sub(exact.Of(4).Mul(mu).Mul(mu))
	return left.Cmp(right) >= 0
}

// reduced reports whether the basis is reduced.
func (s *state) reduced() bool {
	for k := range s.rows {
		s.orthogonalise(k)
		for j := range k {
			if exact.Of(2).Mul(s.scaled[k][j].Abs()).Cmp(s.dets[j]) > 0 {
				return false
			}
		}
		if k > 0 && !s.ordered(k) {
			return false
		}
	}
	return true
}
