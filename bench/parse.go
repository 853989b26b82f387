package bench

import (
	"strconv"
	"strings"

	"skyfix/api"
)

const (
	// maxDigits is the greatest number of digits of a number, maxBits that of bits.
	maxDigits = 14
	maxBits   = 64
)

// command is what a line can say: so many numbers, and perhaps further numbers or bits behind them.
type command struct {
	numbers int
	more    bool
	bits    bool
	run     func(b *Bench, a arguments) string
}

// arguments are the arguments of a line.
type arguments struct {
	numbers []int
	bits    []int
}

// fields are the arguments of a line that are not read yet; the next one, if there is one, begins with a blank.
type fields struct {
	line string
	at   int
}

// next returns the next argument as what parse makes of it, or the fault of the line.
func next[T any](f *fields, parse func(s string) (T, bool)) (T, api.Fault) {
	var none T
	if f.at == len(f.line) {
		return none, api.Fault{Err: api.ErrSyntax, At: f.at}
	}
	start := f.at + 1
	text, _, _ := strings.Cut(f.line[start:], " ")
	x, ok := parse(text)
	if !ok {
		return none, api.Fault{Err: api.ErrSyntax, At: start}
	}
	f.at = start + len(text)
	return x, api.Fault{}
}

// parse returns the arguments of a line, behind a place.
func (c command) parse(line string, at int) (arguments, api.Fault) {
	f := &fields{line, at}
	var a arguments
	for i := 0; i < c.numbers || c.more && f.at < len(line); i++ {
		n, fault := next(f, parseNumber)
		if fault.Err != api.OK {
			return arguments{}, fault
		}
		a.numbers = append(a.numbers, n)
	}
	if c.bits {
		bits, fault := next(f, parseBits)
		if fault.Err != api.OK {
			return arguments{}, fault
		}
		a.bits = bits
	}
	if f.at < len(line) {
		return arguments{}, api.Fault{Err: api.ErrSyntax, At: f.at}
	}
	return a, api.Fault{}
}

// parseNumber returns the number of a text, and whether it is one.
func parseNumber(s string) (int, bool) {
	digits, negative := strings.CutPrefix(s, "-")
	if digits == "" || len(digits) > maxDigits || digits[0] == '0' && (len(digits) > 1 || negative) {
		return 0, false
	}
	if strings.ContainsFunc(digits, func(r rune) bool { return r < '0' || r > '9' }) {
		return 0, false
	}
	n, err := strconv.Atoi(s)
	return n, err == nil
}

// parseBits returns the bits of a text, and whether they are some.
func parseBits(s string) ([]int, bool) {
	if s == "-" {
		return nil, true
	}
	if s == "" || len(s) > maxBits {
		return nil, false
	}
	var bits []int
	for _, r := range s {
		if r != '0' && r != '1' {
			return nil, false
		}
		bits = append(bits, int(r-'0'))
	}
	return bits, true
}
