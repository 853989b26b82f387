package bank

import (
	"iter"
	"slices"

	"skyfix/api"
	"skyfix/ntt"
)

// long is the number of products from which on sums at successive places are computed by transforms.
const long = 1 << 17

// correlator is a list of levels, and the samples of a code.
type correlator struct {
	s    []api.Sample
	code []int
}

// places yields many places, one step after the other.
func places(from, step, many int) iter.Seq[int] {
	return func(yield func(at int) bool) {
		for k := range many {
			if !yield(from + k*step) {
				return
			}
		}
	}
}

// collected returns the values of places.
func collected[T any](at iter.Seq[int], value func(at int) T) []T {
	var l []T
	for a := range at {
		l = append(l, value(a))
	}
	return l
}

// sum returns the sum at a place.
func (c correlator) sum(at int) api.Sample {
	var sum api.Sample
	from := min(max(-at, 0), len(c.code))
	to := max(min(len(c.code), len(c.s)-at), from)
	for i := from; i < to; i++ {
		x := c.s[at+i]
		sum.I += x.I * c.code[i]
		sum.Q += x.Q * c.code[i]
	}
	return sum
}

// direct returns the sums at many places, one after the other.
func (c correlator) direct(from, many int) []api.Sample {
	return collected(places(from, 1, many), c.sum)
}

// part returns the samples from a place on, many of them.
func (c correlator) part(from, many int) []api.Sample {
	l := make([]api.Sample, many)
	first := min(max(from, 0), len(c.s))
	if skip := first - from; skip < many {
		copy(l[max(skip, 0):], c.s[first:])
	}
	return l
}

// transformed returns the same sums as direct, by products of lists. (Circular sums would be too short for a window and as many places.)
func (c correlator) transformed(from, many int) []api.Sample {
	part := c.part(from, many+len(c.code)-1)
	back := slices.Clone(c.code)
	slices.Reverse(back)
	sums := func(component func(x api.Sample) int) []int {
		l := make([]int, len(part))
		for i, x := range part {
			l[i] = component(x)
		}
		// The weight is at most that of a window of the greatest levels, which is not too great.
		product, _ := ntt.Product(back, l)
		return product[len(back)-1:]
	}
	i := sums(func(x api.Sample) int { return x.I })
	q := sums(func(x api.Sample) int { return x.Q })
	l := make([]api.Sample, many)
	for k := range l {
		l[k] = api.Sample{I: i[k], Q: q[k]}
	}
	return l
}
