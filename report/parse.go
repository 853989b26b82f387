package report

import (
	"slices"
	"strings"

	"skyfix/api"
)

const (
	// maxLine is the greatest number of bytes of a line.
	maxLine = 500
	// maxDigits is the greatest number of digits of a number.
	maxDigits = 19
)

// Parse returns the sentence of a line.
func Parse(s string) (api.Sentence, api.Fault) {
	star, f := framed(s)
	if f.Err != api.OK {
		return api.Sentence{}, f
	}
	r := &reader{line: s[:star], next: 1}
	firsts := words()
	kind := slices.Index(firsts[:], r.field())
	if kind < 0 {
		r.fail(api.ErrSyntax)
	} else {
		r.x.Kind = kind + 1
		r.x.Time = read(r, 0, maxTime)
		kinds := [3]func(r *reader){(*reader).fix, (*reader).channel, (*reader).text}
		kinds[kind](r)
		r.end()
	}
	if r.fault.Err != api.OK {
		return api.Sentence{}, r.fault
	}
	return r.x, api.Fault{}
}

// framed returns the place of the * of a line, or the fault of what stands around the fields.
func framed(s string) (int, api.Fault) {
	if len(s) > maxLine {
		return 0, api.Fault{Err: api.ErrLong, At: maxLine}
	}
	if !strings.HasPrefix(s, "$") {
		return 0, api.Fault{Err: api.ErrSyntax}
	}
	star := strings.IndexByte(s, '*')
	if star < 0 {
		return 0, api.Fault{Err: api.ErrSyntax, At: len(s)}
	}
	sum := 0
	for i := star + 1; i < star+3; i++ {
		digit := -1
		if i < len(s) {
			digit = strings.IndexByte(hexDigits, s[i])
		}
		if digit < 0 {
			return 0, api.Fault{Err: api.ErrSyntax, At: i}
		}
		sum = sum<<4 | digit
	}
	if len(s) > star+3 {
		return 0, api.Fault{Err: api.ErrSyntax, At: star + 3}
	}
	if sum != Sum(s[1:star]) {
		return 0, api.Fault{Err: api.ErrSum, At: star + 1}
	}
	return star, api.Fault{}
}

// reader reads the fields of a line up to its *; after the first fault it reads nothing more.
type reader struct {
	line  string
	at    int // where the last field begins
	next  int // where the next one does
	x     api.Sentence
	fault api.Fault
}

// fail keeps a fault of the last field, if it is the first one.
func (r *reader) fail(e api.Errno) {
	if r.fault.Err == api.OK {
		r.fault = api.Fault{Err: e, At: r.at}
	}
}

// field returns the next field, or fails at the * if there is none.
func (r *reader) field() string {
	if r.fault.Err != api.OK {
		return ""
	}
	if r.next > len(r.line) {
		r.at = len(r.line)
		r.fail(api.ErrSyntax)
		return ""
	}
	r.at = r.next
	field, _, _ := strings.Cut(r.line[r.at:], ",")
	r.next = r.at + len(field) + 1
	return field
}

// end fails if there is a further field.
func (r *reader) end() {
	if r.next <= len(r.line) {
		r.field()
		r.fail(api.ErrSyntax)
	}
}

// read reads a number from low to high.
func read[T ~int](r *reader, low, high T) T {
	return limited(r, low, high, api.ErrRange)
}

// limited reads a number; the error if it is above high may be another one.
func limited[T ~int](r *reader, low, high T, above api.Errno) T {
	n, ok := parsed(r.field())
	switch {
	case !ok:
		r.fail(api.ErrSyntax)
	case n < int(low):
		r.fail(api.ErrRange)
	case n > int(high):
		r.fail(above)
	default:
		return T(n)
	}
	return 0
}

// parsed returns the number of a text, or the int nearest to it, and whether the text is written as it should be.
func parsed(s string) (int, bool) {
	digits, negative := strings.CutPrefix(s, "-")
	if digits == "" || len(digits) > maxDigits || digits[0] == '0' && (len(digits) > 1 || negative) {
		return 0, false
	}
	size := uint64(0)
	for i := range len(digits) {
		if digits[i] < '0' || digits[i] > '9' {
			return 0, false
		}
		size = 10*size + uint64(digits[i]-'0')
	}
	n := int(min(size, 1<<63-1))
	if negative {
		n = -n
	}
	return n, true
}

// ok reads whether something is so.
func (r *reader) ok() bool {
	return read(r, 0, 1) == 1
}

// fix reads the fields of a fix.
func (r *reader) fix() {
	r.x.Ok = r.ok()
	for i := range r.x.Pos {
		r.x.Pos[i] = read(r, -api.MaxLength, api.MaxLength)
	}
	for i := range r.x.Level {
		r.x.Level[i] = read(r, 0, api.MaxLength)
	}
	last := 0
	for range limited(r, 0, api.MaxSats, api.ErrLong) {
		prn := read(r, 1, maxPrn)
		if prn <= last {
			r.fail(api.ErrOrder)
		}
		r.x.Prns = append(r.x.Prns, prn)
		last = prn
	}
}

// channel reads the fields of a channel.
func (r *reader) channel() {
	r.x.Ok = r.ok()
	r.x.Prn = read(r, 1, maxPrn)
	r.x.Lag = read(r, 0, maxLag)
	r.x.Power = read(r, 0, maxPower)
}

// text reads a text.
func (r *reader) text() {
	r.x.Text = r.field()
	if len(r.x.Text) > maxText {
		r.fail(api.ErrLong)
	}
	if !isText(r.x.Text) {
		r.fail(api.ErrForm)
	}
}
