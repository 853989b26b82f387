package block

import "slices"

// locator returns the polynomial that is 0 at the inverses of the locations of places; the location of a place is what its coefficient is multiplied by at 2.
func locator(places []int) polynomial {
	p := polynomial{1}
	for _, place := range places {
		p = p.times(polynomial{1, power(wordLength - 1 - place)})
	}
	return p
}

// found returns the locator of the erased places and the wrong ones, and their number, by the algorithm of Berlekamp and Massey.
func found(s polynomial, erased []int) (polynomial, int) {
	all := locator(erased)
	last, length := all, len(erased)
	for r := len(erased) + 1; r <= len(s); r++ {
		gap := 0
		for j := 0; j < len(all) && j < r; j++ {
			gap ^= times(all[j], s[r-1-j])
		}
		last = last.shifted()
		if gap == 0 {
			continue
		}
		next := all.plus(last.scaled(gap))
		if 2*length < r+len(erased) {
			last, length = all.scaled(over(1, gap)), r+len(erased)-length
		}
		all = next
	}
	return all, length
}

// repaired returns the codeword whose distance from a word, apart from the erased places, is small enough, and whether there is one.
func repaired(word, erased []int, t int) ([]int, bool) {
	s := syndromes(word, t)
	all, length := found(s, erased)
	if all.degree() != length || 2*length-len(erased) > 2*t {
		return nil, false
	}
	near := slices.Clone(word)
	values := s.times(all)[:len(s)]
	slopes := all.derivative()
	left := length
places:
	for place := range near {
		inverse := power(place - (wordLength - 1))
		if all.at(inverse) != 0 {
			continue
		}
		near[place] ^= over(values.at(inverse), slopes.at(inverse))
		if left--; left == 0 {
			break places
		}
	}
	return near, left == 0 && syndromes(near, t).degree() < 0
}
