// Package fixed computes with fixed-point numbers of 64 bits, and exactly with products of 128 bits (layer 1: doc/01-fixed.md).
package fixed

import (
	"math/bits"

	"skyfix/api"
)

// The greatest shifts of Mul and Div.
const (
	maxMulShift = 126
	maxDivShift = 62
)

// Add returns the sum, saturated.
func Add(a, b int) int {
	if (a < 0) != (b < 0) {
		return a + b
	}
	return saturate[int](a < 0, together(a, b))
}

// Sub returns the difference, saturated.
func Sub(a, b int) int {
	if (a < 0) == (b < 0) {
		return a - b
	}
	return saturate[int](a < 0, together(a, b))
}

// Neg returns the negative, saturated.
func Neg(a int) int {
	return saturate[int](a > 0, words{lo: size(a)})
}

// Clamp returns a, or the nearer one of lo and hi if a is not between them.
func Clamp(a, lo, hi int) (int, api.Errno) {
	if lo > hi {
		return 0, api.ErrRange
	}
	return min(max(a, lo), hi), api.OK
}

// Shift returns a*2^n, rounded and saturated.
func Shift(a, n int) int {
	w := words{lo: size(a)}
	switch {
	case n < -maxMulShift:
		return 0
	case n < 0:
		w = w.down(uint(-n))
	default:
		// A shift by 64 saturates every number but 0, as every greater one does.
		w = w.up(uint(min(n, 64)))
	}
	return saturate[int](a < 0, w)
}

// Mul returns a*b/2^n, rounded and saturated.
func Mul(a, b, n int) (int, api.Errno) {
	if e := first(within(n, maxMulShift)); e != api.OK {
		return 0, e
	}
	return saturate[int]((a < 0) != (b < 0), times(a, b).down(uint(n))), api.OK
}

// Div returns a*2^n/b, rounded and saturated.
func Div(a, b, n int) (int, api.Errno) {
	if e := first(within(n, maxDivShift), divisor(b)); e != api.OK {
		return 0, e
	}
	w := words{lo: size(a)}.up(uint(n)).over(size(b))
	return saturate[int]((a < 0) != (b < 0), w), api.OK
}

// Ratio returns a*b/c, rounded and saturated.
func Ratio(a, b, c int) (int, api.Errno) {
	if e := first(divisor(c)); e != api.OK {
		return 0, e
	}
	negative := ((a < 0) != (b < 0)) != (c < 0)
	return saturate[int](negative, times(a, b).over(size(c))), api.OK
}

// first returns the error of the first check that has one.
func first(checks ...func() api.Errno) api.Errno {
	for _, check := range checks {
		if e := check(); e != api.OK {
			return e
		}
	}
	return api.OK
}

// within checks that a shift is from 0 to most.
func within(n, most int) func() api.Errno {
	return func() api.Errno {
		if n < 0 || n > most {
			return api.ErrRange
		}
		return api.OK
	}
}

// divisor checks that b is not 0.
func divisor(b int) func() api.Errno {
	return func() api.Errno {
		if b == 0 {
			return api.ErrZero
		}
		return api.OK
	}
}

// signed are the types of 64 bits that numbers are saturated to.
type signed interface{ ~int | ~int64 }

// saturate returns the number with this sign and size, or the nearest one of the type.
func saturate[T signed](negative bool, w words) T {
	const edge = 1 << 63
	switch {
	case negative && (w.hi != 0 || w.lo >= edge):
		return -edge
	case negative:
		return -T(w.lo)
	case w.hi != 0 || w.lo >= edge:
		return edge - 1
	}
	return T(w.lo)
}

// size returns the absolute value.
func size(a int) uint64 {
	if a < 0 {
		return -uint64(a)
	}
	return uint64(a)
}

// words is the natural number hi*2^64 + lo.
type words struct{ hi, lo uint64 }

// together returns the sum of the absolute values.
func together(a, b int) words {
	lo, carry := bits.Add64(size(a), size(b), 0)
	return words{carry, lo}
}

// times returns the product of the absolute values.
func times(a, b int) words {
	hi, lo := bits.Mul64(size(a), size(b))
	return words{hi, lo}
}

// up returns w*2^n, for a result that is less than 2^128 and n up to 64.
func (w words) up(n uint) words {
	return words{w.hi<<n | w.lo>>(64-n), w.lo << n}
}

// down returns w/2^n, rounded half up; w is less than 2^127.
func (w words) down(n uint) words {
	if n == 0 {
		return w
	}
	half := words{lo: 1}
	if n > 64 {
		half = words{hi: 1 << (n - 65)}
	} else {
		half.lo <<= n - 1
	}
	lo, carry := bits.Add64(w.lo, half.lo, 0)
	hi, _ := bits.Add64(w.hi, half.hi, carry)
	if n >= 64 {
		return words{lo: hi >> (n - 64)}
	}
	return words{hi >> n, lo>>n | hi<<(64-n)}
}

// over returns w/b, rounded half up.
func (w words) over(b uint64) words {
	hi, rest := bits.Div64(0, w.hi, b)
	lo, rest := bits.Div64(rest, w.lo, b)
	up := uint64(0)
	if rest >= b-rest {
		up = 1
	}
	lo, carry := bits.Add64(lo, up, 0)
	return words{hi + carry, lo}
}
