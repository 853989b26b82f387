package normal

import (
	"skyfix/api"
	"skyfix/exact"
	"skyfix/matrix"
)

// rows is the matrix of a design.
type rows [][]int

// unknowns returns the number of unknowns.
func (r rows) unknowns() int { return len(r[0]) }

// entry returns the coefficient of an unknown in an observation.
func (r rows) entry(i, k int) exact.Int { return exact.Of(r[i][k]) }

// weights are the weights of a design.
type weights []int

// weighted returns a number times the weight of an observation.
func (w weights) weighted(i int, x exact.Int) exact.Int { return x.Mul(exact.Of(w[i])) }

// many returns the number of observations.
func (w weights) many() int { return len(w) }

// design is a valid design.
type design struct {
	rows
	weights
}

// reduce returns what the values of all indices are together; n is not 0.
func reduce[T any](n int, value func(i int) T, together func(a, b T) T) T {
	all := value(0)
	for i := 1; i < n; i++ {
		all = together(all, value(i))
	}
	return all
}

// sum returns the sum of the values of all indices.
func sum(n int, value func(i int) exact.Int) exact.Int {
	return reduce(n, value, exact.Int.Add)
}

// normal returns the normal matrix.
func (d design) normal() (api.Mat, api.Errno) {
	m := make(api.Mat, d.unknowns())
	for k := range m {
		l := make([]exact.Int, len(m))
		for j := range l {
			l[j] = sum(d.many(), func(i int) exact.Int {
				return d.weighted(i, d.entry(i, k).Mul(d.entry(i, j)))
			})
		}
		var e api.Errno
		if m[k], e = exact.Rats(l, exact.Of(1)); e != api.OK {
			return nil, e
		}
	}
	return m, api.OK
}

// shape consists of the covariance and the influence, as integers over one denominator.
type shape struct {
	cov, influence [][]exact.Int
	den            exact.Int
}

// shape returns the shape of a design.
func (d design) shape() (shape, api.Errno) {
	m, e := d.normal()
	if e != api.OK {
		return shape{}, e
	}
	inv, e := matrix.Inv(m)
	if e != api.OK {
		return shape{}, e
	}
	var all []api.Rat
	for _, row := range inv {
		all = append(all, row...)
	}
	nums, den := exact.Common(all)
	x := shape{den: den}
	for k := range inv {
		cov := nums[k*len(inv) : (k+1)*len(inv)]
		influence := make([]exact.Int, d.many())
		for i := range influence {
			influence[i] = d.weighted(i, sum(len(cov), func(j int) exact.Int { return cov[j].Mul(d.entry(i, j)) }))
		}
		x.cov = append(x.cov, cov)
		x.influence = append(x.influence, influence)
	}
	return x, api.OK
}

// matrices returns the covariance and the influence.
func (x shape) matrices() (cov, influence api.Mat, err api.Errno) {
	for k := range x.cov {
		c, e := exact.Rats(x.cov[k], x.den)
		if e != api.OK {
			return nil, nil, e
		}
		s, e := exact.Rats(x.influence[k], x.den)
		if e != api.OK {
			return nil, nil, e
		}
		cov, influence = append(cov, c), append(influence, s)
	}
	return cov, influence, api.OK
}

// unknowns returns the unknowns for integer observations, times den.
func (x shape) unknowns(y []exact.Int) []exact.Int {
	l := make([]exact.Int, len(x.influence))
	for k, row := range x.influence {
		l[k] = sum(len(y), func(i int) exact.Int { return row[i].Mul(y[i]) })
	}
	return l
}

// residuals returns the residuals for integer observations, times den.
func (x shape) residuals(d design, y []exact.Int) []exact.Int {
	unknowns := x.unknowns(y)
	l := make([]exact.Int, len(y))
	for i := range l {
		fitted := sum(len(unknowns), func(k int) exact.Int { return unknowns[k].Mul(d.entry(i, k)) })
		l[i] = x.den.Mul(y[i]).Sub(fitted)
	}
	return l
}

// fit returns the fit of valid observations, as many as the design has.
func (d design) fit(y []api.Rat) (f api.Fit, err api.Errno) {
	var x shape
	defer func() {
		if err == api.OK {
			f, err = x.fit(d, y)
		}
		if err != api.OK {
			f = api.Fit{}
		}
	}()
	x, err = d.shape()
	return f, err
}

// fit returns the fit of observations by the shape of their design.
func (x shape) fit(d design, y []api.Rat) (f api.Fit, err api.Errno) {
	nums, den := exact.Common(y)
	den = den.Mul(x.den)
	if f.X, err = exact.Rats(x.unknowns(nums), den); err != api.OK {
		return f, err
	}
	if f.Resid, err = exact.Rats(x.residuals(d, nums), den); err != api.OK {
		return f, err
	}
	f.Cov, f.Shape, err = x.matrices()
	return f, err
}
