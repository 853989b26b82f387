package almanac

import (
	"iter"
	"slices"

	"skyfix/api"
	"skyfix/field"
	"skyfix/frame"
)

const (
	// words is the number of words of a frame, kind its kind.
	words = 10
	kind  = 4
	// times is the number of times of frames.
	times = 1 << 17
)

// room returns the number of bits of data of a frame.
func room() int {
	n, _ := frame.Room(words)
	return n
}

// fields returns the fields of a page's numbers.
func fields() []api.Field {
	sizes := []int{6, 20, 16, 20, 20, 14, 12, 20, 14, 12, 20, 14, 12}
	l := make([]api.Field, len(sizes))
	at := 0
	for i, bits := range sizes {
		// Only the coefficients behind the first four numbers have signs.
		l[i] = api.Field{At: at, Bits: bits, Signed: i >= 4, Unit: 1}
		at += bits
	}
	return l
}

// values returns the numbers of a page.
func values(p api.Page) []int {
	return slices.Concat([]int{p.Prn, p.T0, p.Err, p.Grow}, p.X[:], p.Y[:], p.Z[:])
}

// packed returns the data of a valid page.
func packed(p api.Page) []int {
	data, _ := field.Pack(fields(), values(p), room())
	return data
}

// Check returns whether a page is valid.
func Check(p api.Page) api.Errno {
	if p.Prn < 1 || !isSecond(p.T0) {
		return api.ErrRange
	}
	all := values(p)
	for i, f := range fields() {
		if low, high, _ := field.Limits(f); all[i] < low || all[i] > high {
			return api.ErrRange
		}
	}
	return api.OK
}

// Frame returns the frame of a page.
func Frame(p api.Page, tow int) (api.Frame, api.Errno) {
	if e := Check(p); e != api.OK {
		return api.Frame{}, e
	}
	if tow < 0 || tow >= times {
		return api.Frame{}, api.ErrRange
	}
	return api.Frame{Tow: tow, Kind: kind, Data: packed(p)}, api.OK
}

// numbers yields the numbers of data that are bits, one after the other, until one cannot be read.
func numbers(data []int) iter.Seq[int] {
	return func(yield func(n int) bool) {
		for _, f := range fields() {
			if n, e := field.Get(data, f); e != api.OK || !yield(n) {
				return
			}
		}
	}
}

// Read returns the page of a frame.
func Read(f api.Frame) (api.Page, api.Errno) {
	if f.Kind != kind || f.Tow < 0 || f.Tow >= times || len(f.Data) != room() {
		return api.Page{}, api.ErrForm
	}
	var p api.Page
	places := []*int{&p.Prn, &p.T0, &p.Err, &p.Grow}
	for _, axis := range [3]*[3]int{&p.X, &p.Y, &p.Z} {
		for i := range axis {
			places = append(places, &axis[i])
		}
	}
	next := 0
	for n := range numbers(f.Data) {
		*places[next] = n
		if next++; p.Prn == 0 {
			break
		}
	}
	// What is read is the page only if nothing else than it is in the frame.
	if next < len(places) || Check(p) != api.OK || !slices.Equal(packed(p), f.Data) {
		return api.Page{}, api.ErrForm
	}
	return p, api.OK
}
