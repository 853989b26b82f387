package angle

import (
	"cmp"

	"skyfix/api"
	"skyfix/fixed"
)

// Root returns the greatest integer whose square is at most n.
func Root(n int) (int, api.Errno) {
	if n < 0 {
		return 0, api.ErrRange
	}
	return root(32, n, func(r, n int) int {
		return cmp.Compare(uint64(r)*uint64(r), uint64(n))
	}), api.OK
}

// RootWide returns the greatest integer whose square is at most w.
func RootWide(w api.Wide) (int, api.Errno) {
	if w.Hi < 0 {
		return 0, api.ErrRange
	}
	if w.Hi >= 1<<62 { // w is at least 2^126
		return 0, api.ErrOver
	}
	return root(63, w, func(r int, w api.Wide) int {
		return fixed.Cmp(fixed.Prod(r, r), w)
	}), api.OK
}

// root returns the root of n, which has at most so many bits; compare compares the square of a number with n.
func root[T int | api.Wide](bits int, n T, compare func(r int, n T) int) int {
	r := 0
search:
	for bit := 1 << (bits - 1); bit > 0; bit /= 2 {
		switch order := compare(r+bit, n); {
		case order == 0:
			r += bit
			break search
		case order < 0:
			r += bit
		}
	}
	return r
}
