package double

import (
	"slices"

	"skyfix/api"
	"skyfix/exact"
	"skyfix/normal"
	"skyfix/rat"
)

const (
	// unit is the length of a direction, turnUnit that of a direction for each unit of a phase.
	unit     = 1 << 30
	turnUnit = unit / 64
	// maxWave is the greatest wave, maxWeight the greatest weight.
	maxWave   = 1000
	maxWeight = 1000000
	// maxAmbiguity is the greatest ambiguity, maxError the greatest error of a difference.
	maxAmbiguity = 1000000000
	maxError     = 1000000000
	// unknowns is the number of unknowns of the float design.
	unknowns = 2 * others
)

// checkSky checks directions and a wave.
func checkSky(directions []api.Point, wave int) api.Errno {
	for _, u := range directions {
		if !areWithin([]int{u.X, u.Y, u.Z}, unit) {
			return api.ErrRange
		}
	}
	if !within(wave, 1, maxWave) {
		return api.ErrRange
	}
	return api.OK
}

// heads returns the coordinates of the differences of directions from the reference, with their signs changed.
func heads(directions []api.Point) [others][3]int {
	var l [others][3]int
	r := directions[0]
	for i, u := range directions[1:] {
		l[i] = [3]int{r.X - u.X, r.Y - u.Y, r.Z - u.Z}
	}
	return l
}

// row returns a row of a design, with more numbers behind a head.
func row(head [3]int, more ...int) []int {
	return append(head[:], more...)
}

// observed returns the sum of two products of three numbers as an observation.
func observed(a, b [3]int) api.Rat {
	product := func(l [3]int) exact.Int {
		return exact.Of(l[0]).Mul(exact.Of(l[1])).Mul(exact.Of(l[2]))
	}
	// Such numbers never have too many limbs.
	y, _ := exact.Rat(product(a).Add(product(b)), exact.Of(1))
	return y
}

// Float returns the baseline with real ambiguities.
func Float(directions []api.Point, wave int, codes, phases []int, codeWeight, phaseWeight int) (api.Fit, api.Errno) {
	if len(directions) != satellites || len(codes) != others || len(phases) != others {
		return api.Fit{}, api.ErrType
	}
	if e := checkSky(directions, wave); e != api.OK {
		return api.Fit{}, e
	}
	if !areWithin(codes, maxCode) || !areWithin(phases, maxTurn) || !within(codeWeight, 1, maxWeight) || !within(phaseWeight, 1, maxWeight) {
		return api.Fit{}, api.ErrRange
	}
	var rows [][]int
	var weights []int
	var y []api.Rat
	for i, head := range heads(directions) {
		rows = append(rows, row(head, 0, 0, 0))
		weights = append(weights, codeWeight)
		y = append(y, observed([3]int{codes[i], unit, 1}, [3]int{}))
	}
	for i, head := range heads(directions) {
		var waves [others]int
		waves[i] = unit * wave
		rows = append(rows, row(head, waves[:]...))
		weights = append(weights, phaseWeight)
		y = append(y, observed([3]int{phases[i], wave, turnUnit}, [3]int{}))
	}
	return normal.Solve(rows, weights, y)
}

// Fixed returns the baseline with integer ambiguities.
func Fixed(directions []api.Point, wave int, phases, ambiguities []int) (api.Fit, api.Errno) {
	if len(directions) != satellites || len(phases) != others || len(ambiguities) != others {
		return api.Fit{}, api.ErrType
	}
	if e := checkSky(directions, wave); e != api.OK {
		return api.Fit{}, e
	}
	if !areWithin(phases, maxTurn) || !areWithin(ambiguities, maxAmbiguity) {
		return api.Fit{}, api.ErrRange
	}
	var rows [][]int
	var y []api.Rat
	for i, head := range heads(directions) {
		rows = append(rows, row(head))
		y = append(y, observed([3]int{phases[i], wave, turnUnit}, [3]int{-ambiguities[i], wave, unit}))
	}
	return normal.Solve(rows, []int{1, 1, 1}, y)
}

// isSquare reports whether a matrix has as many rows and columns as there are unknowns.
func isSquare(m api.Mat) bool {
	return len(m) == unknowns && !slices.ContainsFunc(m, func(row []api.Rat) bool { return len(row) != unknowns })
}

// Part returns the ambiguities of a fit, and their part of the covariance.
func Part(f api.Fit) (a []api.Rat, q api.Mat, e api.Errno) {
	if len(f.X) != unknowns || !isSquare(f.Cov) {
		return nil, nil, api.ErrType
	}
	a = copied(f.X[others:unknowns:unknowns])
	for _, row := range f.Cov[others:unknowns:unknowns] {
		q = append(q, copied(row[others:unknowns:unknowns]))
	}
	return a, q, api.OK
}

// copied returns numbers in memory of their own.
func copied(l []api.Rat) []api.Rat {
	out := make([]api.Rat, len(l))
	for i, x := range l {
		out[i] = api.Rat{Neg: x.Neg, Num: slices.Clone(x.Num), Den: slices.Clone(x.Den)}
	}
	return out
}

// checkBound checks the arguments of Bound, and returns the ambiguities' part of the covariance.
func checkBound(f api.Fit, wave int, errors []int) (api.Mat, api.Errno) {
	_, q, e := Part(f)
	if e != api.OK {
		return nil, e
	}
	if !isSquare(f.Shape) || len(errors) != unknowns {
		return nil, api.ErrType
	}
	if !within(wave, 1, maxWave) || slices.ContainsFunc(errors, func(x int) bool { return !within(x, 0, maxError) }) {
		return nil, api.ErrRange
	}
	for _, m := range [2]api.Mat{f.Cov, f.Shape} {
		for _, x := range slices.Concat(m...) {
			if e := rat.Check(x); e != api.OK {
				return nil, e
			}
		}
	}
	return q, api.OK
}

// Bound returns how far the true ambiguities can be in their norm.
func Bound(f api.Fit, wave int, errors []int) (api.Rat, api.Errno) {
	q, e := checkBound(f, wave, errors)
	if e != api.OK {
		return api.Rat{}, e
	}
	var reaches [others]exact.Int
	all, den := exact.Common(slices.Concat(f.Shape[others:]...))
	for k := range reaches {
		for i, n := range all[k*unknowns : (k+1)*unknowns] {
			scale := unit
			if i >= others {
				scale = wave * turnUnit
			}
			reaches[k] = reaches[k].Add(n.Abs().Mul(exact.Of(errors[i])).Mul(exact.Of(scale)))
		}
	}
	entries, common := exact.Common(slices.Concat(q...))
	inverse, det := cofactors([others * others]exact.Int(entries))
	if det.Sign() == 0 {
		return api.Rat{}, api.ErrSingular
	}
	sum := exact.Int{}
	for j := range others {
		for k := range others {
			sum = sum.Add(inverse[others*j+k].Abs().Mul(reaches[j]).Mul(reaches[k]))
		}
	}
	return exact.Rat(sum.Mul(common), det.Abs().Mul(den).Mul(den))
}

// cofactors returns the matrix of three rows that, divided by the determinant, is the inverse of another one.
func cofactors(m [others * others]exact.Int) (c [others * others]exact.Int, det exact.Int) {
	at := func(i, k int) exact.Int { return m[others*(i%others)+k%others] }
	for i := range others {
		for k := range others {
			// With the rows and columns taken in turn, each minor has its sign.
			c[others*k+i] = at(i+1, k+1).Mul(at(i+2, k+2)).Sub(at(i+1, k+2).Mul(at(i+2, k+1)))
		}
	}
	for k := range others {
		det = det.Add(at(0, k).Mul(c[others*k]))
	}
	return c, det
}
