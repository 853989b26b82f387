// Package exact computes with integers of any length. The layers use it for what lies between their arguments and their results, where numbers may be longer than api.MaxLimbs.
package exact

import "skyfix/api"

// Int is an integer; the zero Int is 0. It is a value: no method changes it.
type Int struct {
	neg  bool
	size words
}

// made returns the integer with this size and, unless it is 0, this sign.
func made(neg bool, size words) Int {
	return Int{neg && len(size) > 0, size}
}

// Of returns an int.
func Of(a int) Int {
	switch {
	case a < 0:
		return Int{true, words{-uint64(a)}}
	case a > 0:
		return Int{false, words{uint64(a)}}
	}
	return Int{}
}

// OfNat returns a natural number, which is valid.
func OfNat(n api.Nat) Int {
	size := make(words, (len(n)+1)/2)
	for i, limb := range n {
		size[i/2] |= uint64(limb) << (32 * (i % 2))
	}
	return Int{false, size}
}

// Nat returns the absolute value, which may have any number of limbs.
func (a Int) Nat() api.Nat {
	if len(a.size) == 0 {
		return nil
	}
	n := make(api.Nat, 0, 2*len(a.size))
	for _, word := range a.size {
		n = append(n, uint32(word), uint32(word>>32))
	}
	if n[len(n)-1] == 0 {
		n = n[:len(n)-1]
	}
	return n
}

// Int returns the int that a is, and whether it is one.
func (a Int) Int() (int, bool) {
	switch len(a.size) {
	case 0:
		return 0, true
	case 1:
		n := int(a.size[0])
		if a.neg {
			n = -n
		}
		if (n < 0) == a.neg {
			return n, true
		}
	}
	return 0, false
}

// Words returns the number of words of 64 bits.
func (a Int) Words() int {
	return len(a.size)
}

// Sign returns -1, 0 or 1.
func (a Int) Sign() int {
	switch {
	case a.neg:
		return -1
	case len(a.size) > 0:
		return 1
	}
	return 0
}

// Neg returns -a.
func (a Int) Neg() Int {
	return made(!a.neg, a.size)
}

// Abs returns the absolute value.
func (a Int) Abs() Int {
	return Int{false, a.size}
}

// Add returns a + b.
func (a Int) Add(b Int) Int {
	if a.neg == b.neg {
		return made(a.neg, a.size.plus(b.size))
	}
	if a.size.compare(b.size) >= 0 {
		return made(a.neg, a.size.minus(b.size))
	}
	return made(b.neg, b.size.minus(a.size))
}

// Sub returns a - b.
func (a Int) Sub(b Int) Int {
	return a.Add(b.Neg())
}

// Mul returns a * b.
func (a Int) Mul(b Int) Int {
	return made(a.neg != b.neg, a.size.times(b.size))
}

// Cmp returns -1, 0 or 1.
func (a Int) Cmp(b Int) int {
	switch {
	case a.neg && b.neg:
		return b.size.compare(a.size)
	case a.neg:
		return -1
	case b.neg:
		return 1
	}
	return a.size.compare(b.size)
}

// Over returns a/b, which is an integer; b is not 0.
func (a Int) Over(b Int) Int {
	q, _ := a.size.divided(b.size)
	return made(a.neg != b.neg, q)
}

// Floor returns a/b, rounded down; b is positive.
func (a Int) Floor(b Int) Int {
	q, r := a.size.divided(b.size)
	if a.neg && len(r) > 0 {
		q = q.plus(words{1})
	}
	return made(a.neg, q)
}

// Ceil returns a/b, rounded up; b is positive.
func (a Int) Ceil(b Int) Int {
	return a.Neg().Floor(b).Neg()
}

// Round returns a/b, rounded to the nearest integer, halves away from 0; b is positive.
func (a Int) Round(b Int) Int {
	q, r := a.size.divided(b.size)
	if r.compare(b.size.minus(r)) >= 0 {
		q = q.plus(words{1})
	}
	return made(a.neg, q)
}

// Gcd returns the greatest common divisor of the absolute values.
func Gcd(a, b Int) Int {
	return Int{false, a.size.common(b.size)}
}

// Rat returns num/den in lowest terms: ErrOver if it has too many limbs. The den is not 0.
func Rat(num, den Int) (api.Rat, api.Errno) {
	if num.Sign() == 0 {
		return api.Rat{Den: api.Nat{1}}, api.OK
	}
	g := Gcd(num, den)
	r := api.Rat{Neg: num.neg != den.neg, Num: num.Over(g).Nat(), Den: den.Over(g).Nat()}
	if max(len(r.Num), len(r.Den)) > api.MaxLimbs {
		return api.Rat{}, api.ErrOver
	}
	return r, api.OK
}

// OfRat returns the numerator, with its sign, and the denominator of a valid number.
func OfRat(r api.Rat) (num, den Int) {
	return made(r.Neg, OfNat(r.Num).size), OfNat(r.Den)
}

// Common returns the numerators of valid numbers over one positive denominator.
func Common(l []api.Rat) (nums []Int, den Int) {
	den = Of(1)
	for _, r := range l {
		_, d := OfRat(r)
		den = den.Mul(d.Over(Gcd(den, d)))
	}
	for _, r := range l {
		n, d := OfRat(r)
		nums = append(nums, n.Mul(den.Over(d)))
	}
	return nums, den
}

// Rats returns the numbers over a denominator, which is not 0, in lowest terms: ErrOver if one of them has too many limbs.
func Rats(nums []Int, den Int) ([]api.Rat, api.Errno) {
	l := make([]api.Rat, len(nums))
	for i, n := range nums {
		var e api.Errno
		if l[i], e = Rat(n, den); e != api.OK {
			return nil, e
		}
	}
	return l, api.OK
}
