package rat

import (
	"slices"

	"skyfix/api"
	"skyfix/exact"
	"skyfix/nat"
)

// sign is the sign of a number.
type sign struct{ neg bool }

// opposite returns the other sign.
func (s sign) opposite() sign { return sign{!s.neg} }

// times returns the sign of a product.
func (s sign) times(t sign) sign { return sign{s.neg != t.neg} }

// number is a valid number.
type number struct {
	sign
	num, den api.Nat
}

// of returns the number that a is.
func of(a api.Rat) number {
	return number{sign{a.Neg}, a.Num, a.Den}
}

// rat returns the number in memory of its own; a zero loses its sign.
func (a number) rat() api.Rat {
	return api.Rat{Neg: a.neg && len(a.num) > 0, Num: slices.Clone(a.num), Den: slices.Clone(a.den)}
}

// negative returns -a.
func (a number) negative() number {
	return number{a.opposite(), a.num, a.den}
}

// reciprocal returns 1/a; a is not 0.
func (a number) reciprocal() number {
	return number{a.sign, a.den, a.num}
}

// across returns the numerators of both numbers over the product of their denominators.
func (a number) across(b number) (x, y exact.Int) {
	num1, den1 := exact.OfRat(a.rat())
	num2, den2 := exact.OfRat(b.rat())
	return num1.Mul(den2), num2.Mul(den1)
}

// plus returns a + b. The fraction may be too long before it is reduced.
func (a number) plus(b number) (api.Rat, api.Errno) {
	x, y := a.across(b)
	return exact.Rat(x.Add(y), exact.OfNat(a.den).Mul(exact.OfNat(b.den)))
}

// multiplied returns a * b. Once each numerator and the other denominator are reduced, the products are in lowest terms.
func (a number) multiplied(b number) (api.Rat, api.Errno) {
	num1, den2 := reduced(a.num, b.den)
	num2, den1 := reduced(b.num, a.den)
	num, e := nat.Mul(num1, num2)
	if e != api.OK {
		return api.Rat{}, e
	}
	den, e := nat.Mul(den1, den2)
	if e != api.OK {
		return api.Rat{}, e
	}
	return number{a.times(b.sign), num, den}.rat(), api.OK
}

// factor is a common factor of two terms.
type factor struct{ value api.Nat }

// removed returns a term without the factor.
func (f factor) removed(n api.Nat) api.Nat {
	q, _, _ := nat.Div(n, f.value)
	return q
}

// reduced returns two terms without their common factors; den is not 0.
func reduced(num, den api.Nat) (api.Nat, api.Nat) {
	common := exact.Gcd(exact.OfNat(num), exact.OfNat(den)).Nat()
	return both(factor{common}.removed, num, den)
}

// both returns what two values are changed to.
func both[T any](change func(T) T, a, b T) (T, T) {
	return change(a), change(b)
}
