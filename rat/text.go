package rat

import (
	"errors"
	"strings"

	"skyfix/api"
	"skyfix/nat"
)

// maxText is the greatest length of a text.
const maxText = 5000

// Text returns the text of a number.
func Text(a api.Rat) (string, api.Errno) {
	if e := check(a); e != api.OK {
		return "", e
	}
	text, _ := nat.Text(a.Num)
	if den, _ := nat.Text(a.Den); den != "1" {
		text += "/" + den
	}
	if a.Neg {
		text = "-" + text
	}
	return text, api.OK
}

// Parse reads a text.
func Parse(s string) (api.Rat, api.Fault) {
	if len(s) > maxText {
		return api.Rat{}, api.Fault{Err: api.ErrLong, At: maxText}
	}
	a, err := parsed(s)
	var f fault
	if errors.As(err, &f) {
		return api.Rat{}, f.Fault
	}
	return a, api.Fault{}
}

// fault is a fault as an error.
type fault struct{ api.Fault }

// Error returns the text of the error.
func (f fault) Error() string { return f.Err.Error() }

// faultAt returns an error at a place.
func faultAt(e api.Errno, at int) error {
	return fault{api.Fault{Err: e, At: at}}
}

// parsed returns the number of a text.
func parsed(s string) (api.Rat, error) {
	text, neg := strings.CutPrefix(s, "-")
	before, after, slash := strings.Cut(text, "/")
	start := len(s) - len(text)
	second := start + len(before) + 1
	if err := digits(before, start); err != nil {
		return api.Rat{}, err
	}
	if slash {
		if err := digits(after, second); err != nil {
			return api.Rat{}, err
		}
	} else {
		after = "1"
	}
	num, err := natural(before, start)
	if err != nil {
		return api.Rat{}, err
	}
	den, err := natural(after, second)
	if err != nil {
		return api.Rat{}, err
	}
	a, e := Make(neg, num, den)
	if e != api.OK {
		return api.Rat{}, faultAt(e, second)
	}
	return a, nil
}

// digits checks that a part of a text, which begins at a place, consists of digits, at least one.
func digits(part string, at int) error {
	if n := strings.IndexFunc(part, func(r rune) bool { return r < '0' || r > '9' }); n >= 0 {
		return faultAt(api.ErrSyntax, at+n)
	}
	if part == "" {
		return faultAt(api.ErrSyntax, at)
	}
	return nil
}

// natural reads a part of a text that begins at a place.
func natural(part string, at int) (api.Nat, error) {
	n, f := nat.Parse(part)
	if f.Err != api.OK {
		return nil, faultAt(f.Err, at+f.At)
	}
	return n, nil
}
