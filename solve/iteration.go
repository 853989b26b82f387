package solve

import (
	"iter"

	"skyfix/api"
	"skyfix/normal"
	"skyfix/rat"
)

// unknowns are the coordinates of a point and a bias, or their corrections.
type unknowns [4]int

// Solve returns the end of the iteration from a point with a bias.
func Solve(l []api.Sight, x api.Point, bias int) (api.Solved, api.Errno) {
	var last api.Solved
	for s, e := range corrections(l, x, bias) {
		if e != api.OK {
			return api.Solved{}, e
		}
		last = s
	}
	return last, api.OK
}

// corrections yields the solutions behind each correction, up to the first one that is 0, or an error.
func corrections(l []api.Sight, x api.Point, bias int) iter.Seq2[api.Solved, api.Errno] {
	return func(yield func(s api.Solved, e api.Errno) bool) {
		s := api.Solved{At: x, Bias: bias}
		for s.Steps < maxSteps && !s.Closed {
			c, e := correction(l, s.At, s.Bias)
			if e != api.OK {
				yield(api.Solved{}, e)
				return
			}
			s.Closed = all(c, func(n int) bool { return n == 0 })
			s.Steps++
			at := unknowns{s.At.X + c[0], s.At.Y + c[1], s.At.Z + c[2], s.Bias + c[3]}
			s.At, s.Bias = api.Point{X: at[0], Y: at[1], Z: at[2]}, at[3]
			if !isNear(s.At) || !within(s.Bias, api.MaxLength) {
				yield(api.Solved{}, api.ErrOver)
				return
			}
			if !yield(s, api.OK) {
				return
			}
		}
	}
}

// correction returns the correction of a point and a bias: ErrOver if it is greater than any that leads to a near point.
func correction(l []api.Sight, x api.Point, bias int) (unknowns, api.Errno) {
	if e := checkAt(l, x, bias); e != api.OK {
		return unknowns{}, e
	}
	d := designed(l, x, bias)
	d.sort()
	f, e := normal.Solve(d.rows, d.weights, d.y)
	if e != api.OK {
		return unknowns{}, e
	}
	var c unknowns
	for k, v := range f.X {
		rounded, e := rat.Round(v)
		if e != api.OK {
			return unknowns{}, e
		}
		if c[k], e = rat.Int(rounded); e != api.OK {
			return unknowns{}, e
		}
	}
	if !all(c, func(n int) bool { return within(n, 2*api.MaxLength) }) {
		return unknowns{}, api.ErrOver
	}
	return c, api.OK
}

// all reports whether a test holds for all elements.
func all[A ~[4]T, T any](a A, test func(x T) bool) bool {
	for _, x := range [4]T(a) {
		if !test(x) {
			return false
		}
	}
	return true
}
