package exact

import (
	"cmp"
	"math/bits"
	"slices"
)

// words is a natural number in words of 64 bits, the lowest one first; the last one is not 0. No method changes it.
type words []uint64

// wordBits is the number of bits of a word.
const wordBits = 64

// trimmed returns the words without the zeros at the end.
func (a words) trimmed() words {
	for len(a) > 0 && a[len(a)-1] == 0 {
		a = a[:len(a)-1]
	}
	return a
}

// compare returns -1, 0 or 1.
func (a words) compare(b words) int {
	if len(a) != len(b) {
		return cmp.Compare(len(a), len(b))
	}
	for i := len(a) - 1; i >= 0; i-- {
		if a[i] != b[i] {
			return cmp.Compare(a[i], b[i])
		}
	}
	return 0
}

// plus returns a + b.
func (a words) plus(b words) words {
	if len(a) < len(b) {
		a, b = b, a
	}
	sum := make(words, len(a)+1)
	carry := uint64(0)
	for i, x := range a {
		y := uint64(0)
		if i < len(b) {
			y = b[i]
		}
		sum[i], carry = bits.Add64(x, y, carry)
	}
	sum[len(a)] = carry
	return sum.trimmed()
}

// minus returns a - b; a is at least b.
func (a words) minus(b words) words {
	rest := make(words, len(a))
	borrow := uint64(0)
	for i, x := range a {
		y := uint64(0)
		if i < len(b) {
			y = b[i]
		}
		rest[i], borrow = bits.Sub64(x, y, borrow)
	}
	return rest.trimmed()
}

// times returns a * b.
func (a words) times(b words) words {
	if len(a) == 0 || len(b) == 0 {
		return nil
	}
	product := make(words, len(a)+len(b))
	for i, x := range a {
		product[i+len(b)] = addProduct(product[i:i+len(b)], b, x)
	}
	return product.trimmed()
}

// addProduct adds b*x to sum, which is as long as b, and returns the carry.
func addProduct(sum, b words, x uint64) (carry uint64) {
	sum = sum[:len(b)]
	for j, y := range b {
		hi, lo := bits.Mul64(x, y)
		lo, c := bits.Add64(lo, sum[j], 0)
		hi += c
		sum[j], c = bits.Add64(lo, carry, 0)
		carry = hi + c
	}
	return carry
}

// subProduct subtracts b*x from rest, which is as long as b, and returns the borrow.
func subProduct(rest, b words, x uint64) (borrow uint64) {
	rest = rest[:len(b)]
	for j, y := range b {
		hi, lo := bits.Mul64(x, y)
		lo, c := bits.Add64(lo, borrow, 0)
		hi += c
		rest[j], c = bits.Sub64(rest[j], lo, 0)
		borrow = hi + c
	}
	return borrow
}

// up returns a*2^n, for n below 64, with a word more than a.
func (a words) up(n int) words {
	out := make(words, len(a)+1)
	for i, x := range a {
		out[i] |= x << n
		out[i+1] = x >> (wordBits - n)
	}
	return out
}

// down returns a/2^n, rounded down, for n below 64.
func (a words) down(n int) words {
	out := make(words, len(a))
	for i, x := range a {
		out[i] |= x >> n
		if i > 0 {
			out[i-1] |= x << (wordBits - n)
		}
	}
	return out.trimmed()
}

// divided returns the quotient and the remainder; b is not 0.
func (a words) divided(b words) (q, r words) {
	if a.compare(b) < 0 {
		return nil, a
	}
	n := len(b)
	if n == 1 {
		q, rest := a.short(b[0])
		return q, words{rest}.trimmed()
	}
	// The first word of the divisor is made at least half of 2^64, so that estimates of a word of the quotient are at most 2 too great.
	shift := bits.LeadingZeros64(b[n-1])
	divisor := b.up(shift)[:n]
	rest := a.up(shift)
	q = make(words, len(rest)-n)
	for j := len(q) - 1; j >= 0; j-- {
		part := rest[j : j+n+1]
		q[j] = estimate(part, divisor)
		borrow := subProduct(part[:n], divisor, q[j])
		if part[n] < borrow {
			q[j]--
			part[n] += addWords(part[:n], divisor)
		}
		part[n] -= borrow
	}
	return q.trimmed(), rest.trimmed().down(shift)
}

// addWords adds b to sum, which is as long, and returns the carry.
func addWords(sum, b words) (carry uint64) {
	for i, x := range b {
		sum[i], carry = bits.Add64(sum[i], x, carry)
	}
	return carry
}

// estimate returns the word of part/divisor, or one more.
func estimate(part, divisor words) uint64 {
	n := len(divisor)
	first, second := divisor[n-1], divisor[n-2]
	if part[n] >= first {
		return 1<<wordBits - 1
	}
	guess, rest := bits.Div64(part[n], part[n-1], first)
	for {
		hi, lo := bits.Mul64(guess, second)
		if hi < rest || hi == rest && lo <= part[n-2] {
			return guess
		}
		guess--
		var carry uint64
		if rest, carry = bits.Add64(rest, first, 0); carry > 0 {
			return guess
		}
	}
}

// short returns the quotient and the remainder of a division by a word.
func (a words) short(b uint64) (q words, r uint64) {
	q = make(words, len(a))
	for i := len(a) - 1; i >= 0; i-- {
		q[i], r = bits.Div64(r, a[i], b)
	}
	return q.trimmed(), r
}

// common returns the greatest common divisor.
func (a words) common(b words) words {
	if a.compare(b) < 0 {
		a, b = b, a
	}
	for len(b) > 1 {
		if s := lehmer(a, b); s.y != 0 {
			a, b = s.applied(a, b)
		} else {
			_, r := a.divided(b)
			a, b = b, r
		}
	}
	if len(b) == 0 {
		return slices.Clone(a)
	}
	_, r := a.short(b[0])
	x, y := b[0], r
	for y > 0 {
		x, y = y, x%y
	}
	return words{x}
}

// steps is what several steps of Euclid's algorithm do together: a becomes x*a - y*b, and b becomes v*b - u*a; or the negative of both if odd.
type steps struct {
	x, y, u, v uint64
	odd        bool
}

// lehmer returns the steps that follow from the leading words of a and b alone (Lehmer's algorithm with Collins' condition); a is at least b, which has more than one word.
func lehmer(a, b words) steps {
	n := len(a)
	shift := bits.LeadingZeros64(a[n-1])
	first := a[n-1]<<shift | a[n-2]>>(wordBits-shift)
	var second uint64
	switch len(b) {
	case n:
		second = b[n-1]<<shift | b[n-2]>>(wordBits-shift)
	case n - 1:
		second = b[n-2] >> (wordBits - shift)
	}
	var u0, u1, u2, v0, v1, v2 uint64 = 0, 1, 0, 0, 0, 1
	odd := true
	// While the cofactors have at most half a word, the quotients are those of a and b.
	for second >= v2 && first-second >= v1+v2 {
		q, r := first/second, first%second
		first, second = second, r
		u0, u1, u2 = u1, u2, u1+q*u2
		v0, v1, v2 = v1, v2, v1+q*v2
		odd = !odd
	}
	return steps{x: u0, y: v0, u: u1, v: v1, odd: odd}
}

// applied returns a and b behind the steps.
func (s steps) applied(a, b words) (words, words) {
	if s.odd {
		return combined(b, s.y, a, s.x), combined(a, s.u, b, s.v)
	}
	return combined(a, s.x, b, s.y), combined(b, s.v, a, s.u)
}

// combined returns a*x - b*y, which is not negative.
func combined(a words, x uint64, b words, y uint64) words {
	return a.times(words{x}.trimmed()).minus(b.times(words{y}.trimmed()))
}
