package fixed

import (
	"cmp"
	"math/bits"

	"skyfix/api"
)

// Prod returns the product, exactly.
func Prod(a, b int) api.Wide {
	w := times(a, b)
	if (a < 0) == (b < 0) {
		return api.Wide{Hi: int(w.hi), Lo: w.lo}
	}
	lo, borrow := bits.Sub64(0, w.lo, 0)
	hi, _ := bits.Sub64(0, w.hi, borrow)
	return api.Wide{Hi: int(hi), Lo: lo}
}

// Plus returns the sum.
func Plus(a, b api.Wide) (api.Wide, api.Errno) {
	lo, carry := bits.Add64(a.Lo, b.Lo, 0)
	hi := a.Hi + b.Hi + int(carry)
	if (a.Hi < 0) == (b.Hi < 0) && (hi < 0) != (a.Hi < 0) {
		return api.Wide{}, api.ErrOver
	}
	return api.Wide{Hi: hi, Lo: lo}, api.OK
}

// Minus returns the difference.
func Minus(a, b api.Wide) (api.Wide, api.Errno) {
	lo, borrow := bits.Sub64(a.Lo, b.Lo, 0)
	hi := a.Hi - b.Hi - int(borrow)
	if (a.Hi < 0) != (b.Hi < 0) && (hi < 0) != (a.Hi < 0) {
		return api.Wide{}, api.ErrOver
	}
	return api.Wide{Hi: hi, Lo: lo}, api.OK
}

// Cmp returns -1, 0 or 1.
func Cmp(a, b api.Wide) int {
	return cmp.Or(cmp.Compare(a.Hi, b.Hi), cmp.Compare(a.Lo, b.Lo))
}

// Narrow returns the int that a wide number is.
func Narrow(w api.Wide) (int, api.Errno) {
	// The upper word of an int that is made wide repeats its sign.
	if w.Hi != int(w.Lo)>>63 {
		return 0, api.ErrOver
	}
	return int(w.Lo), api.OK
}

// Norm returns the sum of the squares of the coordinates.
func Norm(p api.Point) (api.Wide, api.Errno) {
	sum := Prod(p.X, p.X)
	for _, x := range [2]int{p.Y, p.Z} {
		var e api.Errno
		if sum, e = Plus(sum, Prod(x, x)); e != api.OK {
			return api.Wide{}, e
		}
	}
	return sum, api.OK
}
