package nat

import (
	"slices"
	"strings"

	"skyfix/api"
)

const (
	// group is how many digits are read and written at once, groupUnit the number that has one digit more.
	group     = 9
	groupUnit = 1000000000
	// maxDigits is the number of digits of 2^8192.
	maxDigits = 2467
)

// Text returns the number in decimal.
func Text(a api.Nat) (string, api.Errno) {
	if e := check(a); e != api.OK {
		return "", e
	}
	return string(digits(a)), api.OK
}

// digits returns the digits; they are found from the last one on.
func digits(a api.Nat) (text []byte) {
	defer func() { slices.Reverse(text) }()
	for len(a) > 1 || len(a) == 1 && a[0] >= groupUnit {
		q, r := short(a, groupUnit)
		rest := uint32(0)
		if len(r) > 0 {
			rest = r[0]
		}
		for range group {
			text = append(text, byte('0'+rest%10))
			rest /= 10
		}
		a = q
	}
	if len(a) == 0 {
		return append(text, '0')
	}
	for rest := a[0]; rest > 0; rest /= 10 {
		text = append(text, byte('0'+rest%10))
	}
	return text
}

// Parse reads a number.
func Parse(s string) (api.Nat, api.Fault) {
	if len(s) > maxDigits {
		return nil, api.Fault{Err: api.ErrLong, At: maxDigits}
	}
	if at := strings.IndexFunc(s, func(r rune) bool { return r < '0' || r > '9' }); at >= 0 {
		return nil, api.Fault{Err: api.ErrSyntax, At: at}
	}
	if s == "" || len(s) > 1 && s[0] == '0' {
		return nil, api.Fault{Err: api.ErrSyntax}
	}
	var n api.Nat
	for len(s) > 0 {
		part := (len(s)-1)%group + 1
		n = appended(n, s[:part])
		s = s[part:]
	}
	if len(n) > api.MaxLimbs {
		return nil, api.Fault{Err: api.ErrOver}
	}
	return n, api.Fault{}
}

// appended returns the number whose digits are those of n and these, at most 9.
func appended(n api.Nat, digits string) api.Nat {
	unit, value := uint32(1), uint32(0)
	for i := range len(digits) {
		unit *= 10
		value = value*10 + uint32(digits[i]-'0')
	}
	c := carry{over: value}
	out := make(api.Nat, 0, len(n)+1)
	for _, x := range n {
		out = append(out, c.mul(x, unit, 0))
	}
	return trim(append(out, c.over))
}
