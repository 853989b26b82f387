package ambig

import (
	"iter"
	"slices"

	"skyfix/exact"
)

// tree is an estimate whose form is a sum of weighted squares: that of the step k is the square of the sum of steps[k][i] times the difference i, over all i from k on, times weights[k].
type tree struct {
	estimate
	steps   square
	weights []exact.Int
}

// eliminated returns the tree of an estimate. All weights are multiplied by the same number, so that they are integers.
func (x estimate) eliminated() tree {
	t := tree{estimate: x}
	rows := make(square, len(x.form))
	for i, row := range x.form {
		rows[i] = slices.Clone(row)
	}
	last, all := exact.Of(1), exact.Of(1)
	var divisors []exact.Int
	for k, row := range rows {
		t.steps = append(t.steps, slices.Clone(row))
		divisor := last.Mul(row[k])
		divisors = append(divisors, divisor)
		all = all.Mul(divisor.Over(exact.Gcd(all, divisor)))
		rows.clear(k, k+1, last)
		last = row[k]
	}
	for _, d := range divisors {
		t.weights = append(t.weights, all.Over(d))
	}
	return t
}

// list is a list of integers that is decided from some index on: all are kept, with their differences from the target and the sum of the squares so far.
type list struct {
	y, w []exact.Int
	sum  exact.Int
}

// none returns the list of which nothing is decided.
func (t tree) none() list {
	n := len(t.target)
	return list{y: make([]exact.Int, n), w: make([]exact.Int, n)}
}

// center returns where the square of the step k is 0, as a fraction.
func (t tree) center(k int, l list) (num, den exact.Int) {
	pivot := t.steps[k][k]
	rest := dot(t.steps[k][k+1:], l.w[k+1:])
	return pivot.Mul(t.target[k]).Sub(rest), pivot.Mul(t.scale)
}

// extended returns a list with the integer y at the index k.
func (t tree) extended(k int, l list, y exact.Int) list {
	next := list{slices.Clone(l.y), slices.Clone(l.w), l.sum}
	next.y[k] = y
	next.w[k] = t.scale.Mul(y).Sub(t.target[k])
	root := dot(t.steps[k][k:], next.w[k:])
	next.sum = l.sum.Add(t.weights[k].Mul(root).Mul(root))
	return next
}

// around yields all integers, the nearer ones to a fraction first.
func around(num, den exact.Int) iter.Seq[exact.Int] {
	return func(yield func(n exact.Int) bool) {
		n := num.Round(den)
		step := exact.Of(1)
		if num.Cmp(n.Mul(den)) < 0 {
			step = step.Neg()
		}
		for yield(n) {
			// The other side is next: 1 farther on it, then 2 back, and so on.
			n = n.Add(step)
			if step.Sign() > 0 {
				step = step.Add(exact.Of(1)).Neg()
			} else {
				step = exact.Of(1).Sub(step)
			}
		}
	}
}

// lists yields the lists that are decided from k on, as long as their sums are admitted.
func (t tree) lists(k int, admits func(sum exact.Int) bool) iter.Seq[list] {
	return func(yield func(l list) bool) {
		if k == len(t.target) {
			yield(t.none())
			return
		}
		for l := range t.lists(k+1, admits) {
			for y := range around(t.center(k, l)) {
				next := t.extended(k, l, y)
				if !admits(next.sum) {
					break
				}
				if !yield(next) {
					return
				}
			}
		}
	}
}

// candidate is a list of integers with its sum.
type candidate struct {
	z   []exact.Int
	sum exact.Int
}

// before reports whether a candidate comes before another one.
func (c candidate) before(other candidate) bool {
	if order := c.sum.Cmp(other.sum); order != 0 {
		return order < 0
	}
	return slices.CompareFunc(c.z, other.z, exact.Int.Cmp) < 0
}

// pair is the best two candidates so far.
type pair struct{ l []candidate }

// add adds a candidate.
func (p *pair) add(c candidate) {
	p.l = append(p.l, c)
	slices.SortFunc(p.l, func(a, b candidate) int {
		if a.before(b) {
			return -1
		}
		return 1
	})
	p.l = p.l[:min(len(p.l), 2)]
}

// admits reports whether a candidate with this sum can be one of the best two.
func (p *pair) admits(sum exact.Int) bool {
	return len(p.l) < 2 || sum.Cmp(p.l[1].sum) <= 0
}

// best returns the first two candidates.
func (t turned) best() (first, second []exact.Int) {
	var p pair
	keep := p.add
	for l := range t.eliminated().lists(0, p.admits) {
		keep(candidate{t.integers(l.y), l.sum})
	}
	return p.l[0].z, p.l[1].z
}
