package nat

import (
	"iter"
	"math/bits"
	"slices"

	"skyfix/api"
)

// carry is what goes over from a limb to the next one.
type carry struct{ over uint32 }

// add returns the limb of x + y + over.
func (c *carry) add(x, y uint32) (limb uint32) {
	limb, c.over = bits.Add32(x, y, c.over)
	return limb
}

// sub returns the limb of x - y - over.
func (c *carry) sub(x, y uint32) (limb uint32) {
	limb, c.over = bits.Sub32(x, y, c.over)
	return limb
}

// mul returns the limb of x*y + z + over.
func (c *carry) mul(x, y, z uint32) uint32 {
	n := uint64(x)*uint64(y) + uint64(z) + uint64(c.over)
	c.over = uint32(n >> limbBits)
	return uint32(n)
}

// div returns the limb of over*2^32 + x, divided by y; the remainder goes over.
func (c *carry) div(x, y uint32) (limb uint32) {
	limb, c.over = bits.Div32(c.over, x, y)
	return limb
}

// pairs yields the limbs of a and b, with zeros behind the shorter one.
func pairs(a, b api.Nat) iter.Seq2[uint32, uint32] {
	return func(yield func(x, y uint32) bool) {
		for i := range max(len(a), len(b)) {
			var x, y uint32
			if i < len(a) {
				x = a[i]
			}
			if i < len(b) {
				y = b[i]
			}
			if !yield(x, y) {
				return
			}
		}
	}
}

// add returns a + b.
func add(a, b api.Nat) api.Nat {
	sum := make(api.Nat, 0, max(len(a), len(b))+1)
	var c carry
	for x, y := range pairs(a, b) {
		sum = append(sum, c.add(x, y))
	}
	return trim(append(sum, c.over))
}

// subtract returns a - b; a is at least b.
func subtract(a, b api.Nat) api.Nat {
	rest := make(api.Nat, 0, len(a))
	var c carry
	for x, y := range pairs(a, b) {
		rest = append(rest, c.sub(x, y))
	}
	return trim(rest)
}

// multiply returns a * b; if that surely has too many limbs, some number that has too many of them, too.
func multiply(a, b api.Nat) api.Nat {
	if len(a) == 0 || len(b) == 0 {
		return nil
	}
	product := make(api.Nat, len(a)+len(b))
	if len(product) > api.MaxLimbs+1 {
		return product
	}
	for i, x := range a {
		var c carry
		for j, y := range b {
			product[i+j] = c.mul(x, y, product[i+j])
		}
		product[i+len(b)] = c.over
	}
	return trim(product)
}

// up returns a*2^n.
func up(a api.Nat, n int) api.Nat {
	if len(a) == 0 {
		return nil
	}
	limbs, rest := n/limbBits, n%limbBits
	out := make(api.Nat, limbs, limbs+len(a)+1)
	below := uint32(0)
	for _, x := range a {
		out = append(out, x<<rest|below)
		below = x >> (limbBits - rest)
	}
	return trim(append(out, below))
}

// down returns a/2^n, rounded down.
func down(a api.Nat, n int) api.Nat {
	limbs, rest := n/limbBits, n%limbBits
	if limbs >= len(a) {
		return nil
	}
	out := slices.Clone(a[limbs:])
	for i := range out {
		out[i] >>= rest
		if i+1 < len(out) {
			out[i] |= out[i+1] << (limbBits - rest)
		}
	}
	return trim(out)
}

// divide returns the quotient and the remainder; b is not 0.
func divide(a, b api.Nat) (q, r api.Nat) {
	if compare(a, b) < 0 {
		return nil, slices.Clone(a)
	}
	if len(b) == 1 {
		return short(a, b[0])
	}
	// The first limb of the divisor is made at least half of 2^32, so that estimates of a limb of the quotient are at most 2 too great.
	shift := bits.LeadingZeros32(b[len(b)-1])
	divisor := up(b, shift)
	rest := append(up(a, shift), 0)
	q = make(api.Nat, max(len(rest)-len(b), 1))
limbs:
	for j := len(rest) - len(b) - 1; j >= 0; j-- {
		part := rest[j : j+len(b)+1]
		guess := estimate(part, divisor)
		if guess == 0 {
			continue limbs
		}
		var product, difference carry
		for i, d := range divisor {
			part[i] = difference.sub(part[i], product.mul(d, guess, 0))
		}
		part[len(b)] = difference.sub(part[len(b)], product.over)
		q[j] = guess
		if difference.over == 0 {
			continue limbs
		}
		// The estimate was too great by 1.
		q[j]--
		var sum carry
		for i, d := range divisor {
			part[i] = sum.add(part[i], d)
		}
		part[len(b)] += sum.over
	}
	return trim(q), down(trim(rest), shift)
}

// estimate returns the limb of part/divisor, or one more.
func estimate(part, divisor api.Nat) uint32 {
	n := len(divisor)
	first, second := uint64(divisor[n-1]), uint64(divisor[n-2])
	head := uint64(part[n])<<limbBits | uint64(part[n-1])
	guess, rest := head/first, head%first
	for rest < 1<<limbBits && (guess >= 1<<limbBits || guess*second > rest<<limbBits|uint64(part[n-2])) {
		guess--
		rest += first
	}
	return uint32(guess)
}

// short divides by a single limb.
func short(a api.Nat, b uint32) (q, r api.Nat) {
	q = slices.Clone(a)
	var c carry
	for i := len(q) - 1; i >= 0; i-- {
		q[i] = c.div(q[i], b)
	}
	return trim(q), trim(api.Nat{c.over})
}
