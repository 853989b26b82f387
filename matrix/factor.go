package matrix

import (
	"skyfix/api"
	"skyfix/exact"
)

// Definite reports whether a square matrix is positive definite.
func Definite(a api.Mat) (bool, api.Errno) {
	if e := checkSquare(a); e != api.OK {
		return false, e
	}
	_, _, ok := eliminated(a)
	return ok, api.OK
}

// Factor returns the factors of a positive definite matrix.
func Factor(a api.Mat) (l api.Mat, d []api.Rat, err api.Errno) {
	if e := checkSquare(a); e != api.OK {
		return nil, nil, e
	}
	rows, dens, ok := eliminated(a)
	if !ok {
		return nil, nil, api.ErrState
	}
	l, err = made(len(a), len(a), func(i, k int) (api.Rat, api.Errno) {
		if k >= i {
			return identity(i, k)
		}
		return exact.Rat(rows[i][k].Mul(dens[k]), rows[k][k].Mul(dens[i]))
	})
	if err != api.OK {
		return nil, nil, err
	}
	last := exact.Of(1)
	for k, row := range rows {
		x, e := exact.Rat(row[k], last.Mul(dens[k]))
		if e != api.OK {
			return nil, nil, e
		}
		d = append(d, x)
		last = row[k]
	}
	return l, d, api.OK
}

// eliminated returns the rows of a square matrix, made integers by multiplication with dens, as they are when each column of them becomes the pivot's; and whether the matrix is positive definite, which it is if it is symmetric and all pivots are positive.
func eliminated(a api.Mat) (rows [][]exact.Int, dens []exact.Int, ok bool) {
	if !symmetric(a) {
		return nil, nil, false
	}
	s := &system{last: exact.Of(1)}
	for _, r := range scaled(a) {
		s.rows = append(s.rows, plain(r.nums))
		dens = append(dens, r.den)
		rows = append(rows, make([]exact.Int, len(a)))
	}
	for k := range a {
		for i := k; i < len(a); i++ {
			rows[i][k] = s.rows[i].entries()[k]
		}
		if rows[k][k].Sign() <= 0 {
			return nil, nil, false
		}
		s.clear(k, k)
	}
	return rows, dens, true
}

// symmetric reports whether a square matrix equals its transpose.
func symmetric(a api.Mat) bool {
	for i, row := range a {
		for k := range i {
			num1, den1 := exact.OfRat(row[k])
			num2, den2 := exact.OfRat(a[k][i])
			if num1.Cmp(num2) != 0 || den1.Cmp(den2) != 0 {
				return false
			}
		}
	}
	return true
}
