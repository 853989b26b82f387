package matrix

import (
	"iter"

	"skyfix/api"
	"skyfix/exact"
)

// fraction is a row of integers over one positive denominator.
type fraction struct {
	nums []exact.Int
	den  exact.Int
}

// scaled returns the rows of a matrix.
func scaled(a api.Mat) []fraction {
	l := make([]fraction, len(a))
	for i, row := range a {
		l[i].nums, l[i].den = exact.Common(row)
	}
	return l
}

// ring is what sums of products need.
type ring[T any] struct {
	zero     T
	add, mul func(a, b T) T
}

// products returns the sum of the products of the elements of two lists.
func products[T any](r ring[T], a, b []T) T {
	sum := r.zero
	for i, x := range a {
		sum = r.add(sum, r.mul(x, b[i]))
	}
	return sum
}

// dot returns the sum of the products of integers.
func dot(a, b []exact.Int) exact.Int {
	return products(ring[exact.Int]{exact.Int{}, exact.Int.Add, exact.Int.Mul}, a, b)
}

// row is a row of integers.
type row interface {
	// entries returns all entries, which may be changed.
	entries() []exact.Int
	// width returns how many of them, from the left, can be pivots.
	width() int
}

// plain is a row of a matrix.
type plain []exact.Int

func (r plain) entries() []exact.Int { return r }
func (r plain) width() int           { return len(r) }

// joined is a row of a matrix with a right side behind it.
type joined struct {
	all  []exact.Int
	left int
}

func (r joined) entries() []exact.Int { return r.all }
func (r joined) width() int           { return r.left }

// system is a list of rows on the way through an elimination without fractions: all entries stay integers, as they are determinants of parts of the first rows.
type system struct {
	rows []row
	odd  bool      // whether an odd number of rows was exchanged
	last exact.Int // the last pivot
}

// pivots yields the rows and the columns of the pivots, and brings the row of a pivot to its place before.
func (s *system) pivots() iter.Seq2[int, int] {
	return func(yield func(i, k int) bool) {
		s.last = exact.Of(1)
		next := 0
		for k := range s.rows[0].width() {
			i := next
			for i < len(s.rows) && s.rows[i].entries()[k].Sign() == 0 {
				i++
			}
			if i == len(s.rows) {
				continue
			}
			if i != next {
				s.rows[i], s.rows[next] = s.rows[next], s.rows[i]
				s.odd = !s.odd
			}
			if !yield(next, k) {
				return
			}
			if next++; next == len(s.rows) {
				return
			}
		}
	}
}

// clear makes the entries of the column k 0 in the rows below the row i of the pivot.
func (s *system) clear(i, k int) {
	base := s.rows[i].entries()
	pivot := base[k]
	for _, r := range s.rows[i+1:] {
		l := r.entries()
		factor := l[k]
		for c := k; c < len(l); c++ {
			l[c] = pivot.Mul(l[c]).Sub(factor.Mul(base[c])).Over(s.last)
		}
	}
	s.last = pivot
}

// determinant eliminates all columns of a square system, and returns the determinant.
func (s *system) determinant() exact.Int {
	rank := 0
	for i, k := range s.pivots() {
		if i != k {
			break
		}
		s.clear(i, k)
		rank++
	}
	switch {
	case rank < len(s.rows):
		return exact.Int{}
	case s.odd:
		return s.last.Neg()
	}
	return s.last
}

// column returns what the column k of the right side is divided by the left side, when all columns of that are eliminated.
func (s *system) column(k int) ([]api.Rat, api.Errno) {
	n := len(s.rows)
	x := make([]api.Rat, n)
	times := make([]exact.Int, n) // the numbers, times the last pivot
	for i := n - 1; i >= 0; i-- {
		l := s.rows[i].entries()
		rest := s.last.Mul(l[n+k]).Sub(dot(l[i+1:n], times[i+1:]))
		times[i] = rest.Over(l[i])
		var e api.Errno
		if x[i], e = exact.Rat(times[i], s.last); e != api.OK {
			return nil, e
		}
	}
	return x, api.OK
}
