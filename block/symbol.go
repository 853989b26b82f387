package block

const (
	// symbols is the number of symbols, cycle that of the powers of 2.
	symbols = 16
	cycle   = symbols - 1
	// modulus is x^4 + x + 1.
	modulus = 1<<4 | 1<<1 | 1
)

// powers are the powers of 2, logarithms their exponents (that of 0 is not used).
var (
	powers     [cycle]int
	logarithms [symbols]int
)

func init() {
	x := 1
	for i := range cycle {
		powers[i] = x
		logarithms[x] = i
		x <<= 1
		if x >= symbols {
			x ^= modulus
		}
	}
}

// power returns the power of 2 with any exponent. Like logarithm, it has its numbers written out, so that no result depends on what start-up code has filled.
func power(n int) int {
	all := [cycle]int{1, 2, 4, 8, 3, 6, 12, 11, 5, 10, 7, 14, 15, 13, 9}
	return all[(n%cycle+cycle)%cycle]
}

// logarithm returns the exponent of a symbol as a power of 2 (that of 0 is not used).
func logarithm(a int) int {
	all := [symbols]int{0, 0, 1, 4, 2, 8, 5, 10, 3, 14, 9, 7, 6, 13, 11, 12}
	return all[a]
}

// times returns the product of two symbols.
func times(a, b int) int {
	if a == 0 || b == 0 {
		return 0
	}
	return power(logarithm(a) + logarithm(b))
}

// over returns a/b; b is not 0.
func over(a, b int) int {
	if a == 0 {
		return 0
	}
	return power(logarithm(a) - logarithm(b))
}

// polynomial is a polynomial, its least coefficient first.
type polynomial []int

// fold combines a value with all elements of a list, the last one first.
func fold[T, V any](l []T, value V, with func(value V, x T) V) V {
	for i := len(l) - 1; i >= 0; i-- {
		value = with(value, l[i])
	}
	return value
}

// at returns the value at x.
func (p polynomial) at(x int) int {
	return fold(p, 0, func(value, c int) int { return times(value, x) ^ c })
}

// times returns the product.
func (p polynomial) times(q polynomial) polynomial {
	out := make(polynomial, len(p)+len(q)-1)
	for i, a := range p {
		for k, b := range q {
			out[i+k] ^= times(a, b)
		}
	}
	return out
}

// scaled returns the polynomial times a symbol.
func (p polynomial) scaled(f int) polynomial {
	return p.times(polynomial{f})
}

// shifted returns the polynomial times its variable.
func (p polynomial) shifted() polynomial {
	return p.times(polynomial{0, 1})
}

// plus returns the sum.
func (p polynomial) plus(q polynomial) polynomial {
	if len(p) < len(q) {
		p, q = q, p
	}
	out := p.scaled(1)
	for i, c := range q {
		out[i] ^= c
	}
	return out
}

// degree returns the degree, or -1.
func (p polynomial) degree() int {
	n := len(p) - 1
	for n >= 0 && p[n] == 0 {
		n--
	}
	return n
}

// derivative returns the derivative: the even powers vanish, as 1 and 1 is 0.
func (p polynomial) derivative() polynomial {
	out := make(polynomial, len(p))
	for i := 1; i < len(p); i += 2 {
		out[i-1] = p[i]
	}
	return out
}
