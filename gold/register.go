package gold

import (
	"iter"
	"math/bits"

	"skyfix/api"
)

// The least and the greatest number of places of a register.
const (
	minPlaces = 2
	maxPlaces = 16
)

// register is a shift register: the bit k of its state is what it will give out k bits later, and a bit of its taps is 1 if there is a tap.
type register struct {
	places      int
	taps, state uint32
}

// made returns a register of n places.
func made(n int, taps, state []int) (register, api.Errno) {
	if n < minPlaces || n > maxPlaces {
		return register{}, api.ErrRange
	}
	r := register{places: n}
	for i, t := range taps {
		if i == 0 && t != 0 || i > 0 && t <= taps[i-1] || t >= n {
			return register{}, api.ErrForm
		}
		r.taps |= 1 << t
	}
	if len(taps) == 0 || len(state) != n {
		return register{}, api.ErrForm
	}
	for i, bit := range state {
		if bit != 0 && bit != 1 {
			return register{}, api.ErrForm
		}
		r.state |= uint32(bit) << i
	}
	return r, api.OK
}

// full returns a register whose state consists of 1s alone.
func full(n int, taps []int) register {
	r := register{places: n, state: 1<<n - 1}
	for _, t := range taps {
		r.taps |= 1 << t
	}
	return r
}

// next returns the register one bit later.
func (r register) next() register {
	bit := uint32(bits.OnesCount32(r.state&r.taps) & 1)
	r.state = r.state>>1 | bit<<(r.places-1)
	return r
}

// sequence yields the bits, without end.
func (r register) sequence() iter.Seq[int] {
	return func(yield func(bit int) bool) {
		for yield(int(r.state & 1)) {
			r = r.next()
		}
	}
}

// first returns the first bits of the sequence.
func (r register) first(many int) []int {
	l := make([]int, 0, many)
	for bit := range r.sequence() {
		if len(l) == many {
			break
		}
		l = append(l, bit)
	}
	return l
}
