package ntt

import "iter"

// power returns a^n modulo the prime.
func power(a, n int) int {
	p := 1
	for ; n > 0; n /= 2 {
		if n%2 == 1 {
			p = p * a % prime
		}
		a = a * a % prime
	}
	return p
}

// powers yields w^0, w^1 and so on, n of them.
func powers(w, n int) iter.Seq[int] {
	return func(yield func(p int) bool) {
		p := 1
		for range n {
			if !yield(p) {
				return
			}
			p = p * w % prime
		}
	}
}

// transformed returns the transform of a list.
func transformed(l []int) []int {
	return evaluated(l, power(base, (prime-1)/len(l)))
}

// inverse returns the list whose transform is l.
func inverse(l []int) []int {
	root := power(base, (prime-1)/len(l))
	out := evaluated(l, power(root, prime-2))
	share := power(len(l), prime-2)
	for i, x := range out {
		out[i] = x * share % prime
	}
	return out
}

// evaluated returns the sums of l[i]*w^(i*k).
func evaluated(l []int, w int) []int {
	var roots []int
	for p := range powers(w, (len(l)+1)/2) {
		roots = append(roots, p)
	}
	out := make([]int, len(l))
	fill(out, l, 1, roots)
	return out
}

// fill writes the sums of every stride-th element of l; the roots are w^0, w^1 and so on for all of the list.
func fill(out, l []int, stride int, roots []int) {
	n := len(out)
	if n == 1 {
		out[0] = l[0]
		return
	}
	half := n / 2
	even, odd := out[:half:half], out[half:n:n]
	fill(even, l, 2*stride, roots)
	fill(odd, l[stride:len(l):len(l)], 2*stride, roots)
	for k, x := range even {
		y := odd[k] * roots[k*stride] % prime
		even[k], odd[k] = reduced(x+y), reduced(x-y+prime)
	}
}

// reduced returns the residue of a number below twice the prime.
func reduced(x int) int {
	if x >= prime {
		return x - prime
	}
	return x
}

// product returns the product of two lists whose weight is not too great.
func product(a, b []int) []int {
	many := len(a) + len(b) - 1
	n := 1
	for n < many {
		n *= 2
	}
	c := inverse(combined(transformed(residues(a, n)), transformed(residues(b, n)), func(x, y int) int { return x * y % prime }))
	out := make([]int, many)
	for i := range out {
		out[i] = signed(c[i])
	}
	return out
}

// residues returns the residues of a list, and zeros behind them.
func residues(l []int, n int) []int {
	out := make([]int, n)
	for i, x := range l {
		out[i] = reduced(x + prime)
	}
	return out
}

// combined returns what the elements of two lists are together, one by one.
func combined[T any](a, b []T, with func(x, y T) T) []T {
	out := make([]T, len(a))
	for i, x := range a {
		out[i] = with(x, b[i])
	}
	return out
}
