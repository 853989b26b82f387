package ephem

import (
	"slices"

	"skyfix/api"
	"skyfix/field"
)

// record is an ephemeris whose numbers are read and written one by one.
type record api.Ephemeris

// entry is a number of a frame.
type entry struct {
	bits   int
	signed bool
	of     func(r *record) *int
}

// coefficients returns the entries of an axis from one coefficient on, before another one.
func coefficients(axis func(r *record) *[4]int, from, to int) []entry {
	sizes := [4]int{32, 24, 22, 24}
	var l []entry
	for i := from; i < to; i++ {
		l = append(l, entry{sizes[i], true, func(r *record) *int { return &axis(r)[i] }})
	}
	return l
}

// layouts returns the entries of the frames of each kind.
func layouts() [kinds][]entry {
	x := func(r *record) *[4]int { return &r.X }
	y := func(r *record) *[4]int { return &r.Y }
	z := func(r *record) *[4]int { return &r.Z }
	head := []entry{
		{8, false, func(r *record) *int { return &r.Issue }},
		{6, false, func(r *record) *int { return &r.Prn }},
	}
	clock := []entry{
		{20, false, func(r *record) *int { return &r.T0 }},
		{16, false, func(r *record) *int { return &r.Acc }},
		{32, true, func(r *record) *int { return &r.Clock[0] }},
		{24, true, func(r *record) *int { return &r.Clock[1] }},
		{16, true, func(r *record) *int { return &r.Clock[2] }},
	}
	return [kinds][]entry{
		slices.Concat(head, clock),
		slices.Concat(head, coefficients(x, 0, 4), coefficients(y, 0, 2)),
		slices.Concat(head, coefficients(y, 2, 4), coefficients(z, 0, 4)),
	}
}

// fields returns the fields of the frames of a kind, counted from 0.
func fields(kind int) []api.Field {
	var l []api.Field
	at := 0
	for _, x := range layouts()[kind] {
		l = append(l, api.Field{At: at, Bits: x.bits, Signed: x.signed, Unit: 1})
		at += x.bits
	}
	return l
}

// values returns the numbers of the frame of a kind.
func (r *record) values(kind int) []int {
	var l []int
	for _, x := range layouts()[kind] {
		l = append(l, *x.of(r))
	}
	return l
}

// take takes the numbers of the data of a kind.
func (r *record) take(kind int, data []int) {
	values, _ := field.Unpack(fields(kind), data)
	for i, x := range layouts()[kind] {
		*x.of(r) = values[i]
	}
}

// heading is what the frames of an ephemeris have in common.
type heading struct{ issue, prn int }

// part returns the heading of a frame, and whether it is part of an ephemeris.
func part(f api.Frame) (heading, bool) {
	switch {
	case f.Kind < 1 || f.Kind > kinds:
		fallthrough
	case f.Tow < 0 || f.Tow >= times:
		fallthrough
	case len(f.Data) != room():
		fallthrough
	case slices.ContainsFunc(f.Data, func(x int) bool { return x != 0 && x != 1 }):
		return heading{}, false
	}
	l := fields(f.Kind - 1)
	last := l[len(l)-1]
	if slices.Contains(f.Data[last.At+last.Bits:], 1) {
		return heading{}, false
	}
	var r record
	r.take(f.Kind-1, f.Data)
	return heading{r.Issue, r.Prn}, r.Prn != 0 && r.T0 < week
}
