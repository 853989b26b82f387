package cross

import (
	"iter"
	"slices"

	"skyfix/api"
	"skyfix/gold"
)

// samples are the samples of a code.
type samples []int

// code is a code with its chips, and over samples a chip.
type code struct {
	samples
	chips []int
	over  int
}

// codes returns codes of a degree.
func codes(degree, over int, prns ...int) ([]code, api.Errno) {
	if _, e := gold.Length(degree); e != api.OK {
		return nil, e
	}
	if over < 1 || over > api.MaxOver {
		return nil, api.ErrRange
	}
	var l []code
	for _, prn := range prns {
		chips, e := gold.Code(degree, prn)
		if e != api.OK {
			return nil, e
		}
		c := code{make(samples, 0, len(chips)*over), chips, over}
		for _, chip := range chips {
			for range over {
				c.samples = append(c.samples, chip)
			}
		}
		l = append(l, c)
	}
	return l, api.OK
}

// overlaps returns, for each number a of chips, the sum of the products of the chips of p from a on with the first ones of q.
func overlaps(p, q code) []int {
	sums := make([]int, len(p.chips)+1)
	for a := range p.chips {
		sums[a] = dot(p.chips[a:], q.chips)
	}
	return sums
}

// boundaries yields every boundary between samples with its sum, by the sums of the boundaries between chips, which are over samples apart.
func boundaries(sums []int, over int) iter.Seq2[int, int] {
	return func(yield func(m, sum int) bool) {
		last := (len(sums) - 1) * over
		sum := over * sums[0]
		for m := range last {
			if !yield(m, sum) {
				return
			}
			// One sample of each chip goes over to the next boundary between chips.
			sum += sums[m/over+1] - sums[m/over]
		}
		yield(last, sum)
	}
}

// pair is what two codes have in common: the parts for all boundaries, the first one for no drift.
type pair struct {
	p            code
	last         int // the last chip of q
	ends, second []int
}

// compared returns what two codes have in common.
func compared(p, q code) pair {
	x := pair{p: p, last: q.chips[len(q.chips)-1]}
	for _, sum := range boundaries(overlaps(p, q), p.over) {
		x.second = append(x.second, sum)
	}
	// The end of q in front of a boundary lies on p as the end of p behind one does on q, seen from the other end.
	back := overlaps(q, p)
	slices.Reverse(back)
	for _, sum := range boundaries(back, p.over) {
		x.ends = append(x.ends, sum)
	}
	return x
}

// first returns the first part for a placement.
func (x pair) first(m, s int) int {
	switch {
	case s < 0:
		// A short period lacks its last sample.
		return x.ends[m+1] - x.p.samples[m]*x.last
	case s > 0 && m > 0:
		// A long one has its last sample once more.
		return x.ends[m-1] + x.p.samples[m-1]*x.last
	case s > 0:
		return 0
	}
	return x.ends[m]
}

// greatest returns the greatest sum over the placements from a boundary on up to a last one, which depends on the drift.
func (x pair) greatest(from int, last func(s int) int) int {
	most := 0
	for s := -1; s <= 1; s++ {
		most = fold(most, from, last(s), func(most, m int) int {
			return max(most, size(x.first(m, s))+size(x.second[m]))
		})
	}
	return most
}

// fold combines a value with all numbers from low to high.
func fold[T any](value T, low, high int, with func(value T, n int) T) T {
	for n := low; n <= high; n++ {
		value = with(value, n)
	}
	return value
}

// size returns the absolute value.
func size(x int) int { return max(x, -x) }

// side returns Side of a code.
func (c code) side() int {
	return compared(c, c).greatest(c.over, func(s int) int { return len(c.samples) + s - c.over })
}

// cross returns Cross of two codes.
func (c code) cross(q code) int {
	return compared(c, q).greatest(0, func(s int) int { return len(c.samples) + min(s, 0) })
}
