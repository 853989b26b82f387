package exclude_test

import (
	"math/big"
	"math/rand/v2"
	"slices"
	"testing"

	"skyfix/api"
	"skyfix/distance"
	"skyfix/exclude"
	"skyfix/level"
	"skyfix/normal"
	"skyfix/rat"
	"skyfix/solve"
)

const (
	far  = 20000000000
	near = 100000000000
	most = 10000000000000
)

// example are the sights e of the chapter's examples.
func example() []api.Sight {
	l := []api.Sight{{Prn: 1, Sat: api.Point{X: far}}, {Prn: 2, Sat: api.Point{Y: far}}, {Prn: 3, Sat: api.Point{Z: far}}, {Prn: 4, Sat: api.Point{X: -far}}, {Prn: 5, Sat: api.Point{Y: -far}}, {Prn: 6, Sat: api.Point{Z: -far}}}
	for i := range l {
		l[i].Range, l[i].Error = far+500, 1000
	}
	return l
}

// random returns right sights of satellites around the earth, and the truth.
func random(r *rand.Rand, many int) (l []api.Sight, at api.Point, bias int) {
	at = api.Point{X: 6371000000, Y: r.IntN(2000000000) - 1000000000, Z: r.IntN(2000000000) - 1000000000}
	bias = r.IntN(200000000) - 100000000
	for _, prn := range r.Perm(40)[:many] {
		c := func() int { return r.IntN(40000000000) - 20000000000 }
		s := api.Sight{Prn: prn + 1, Sat: api.Point{X: 12000000000 + r.IntN(13000000000), Y: c(), Z: c()}, Error: 1 + r.IntN(20000)}
		d, _ := distance.Range(at, s.Sat)
		s.Range = d + bias + []int{s.Error, 1 - s.Error, r.IntN(s.Error)}[r.IntN(3)]
		l = append(l, s)
	}
	return l, at, bias
}

// moved returns a point whose coordinates are at most by away.
func moved(r *rand.Rand, p api.Point, by int) api.Point {
	c := func(x int) int { return x + r.IntN(2*by+1) - by }
	return api.Point{X: c(p.X), Y: c(p.Y), Z: c(p.Z)}
}

func value(a api.Rat) *big.Rat {
	text, _ := rat.Text(a)
	x, _ := new(big.Rat).SetString(text)
	return x
}

// solution is a point with a bias.
type solution struct {
	at   api.Point
	bias int
}

// anchor returns the anchor by the definition.
func anchor(l []api.Sight, prior api.Point, radius, bias int) solution {
	if s, e := solve.Solve(l, prior, bias); e == api.OK {
		if d, _ := distance.Range(prior, s.At); d <= 2*radius {
			return solution{s.At, s.Bias}
		}
	}
	return solution{prior, bias}
}

// consistent tests sights by the definition.
func consistent(l []api.Sight, s solution, prior api.Point, radius int) (bool, api.Errno) {
	budgets, e := level.Budget(l, s.at, prior, radius)
	if e != api.OK {
		return false, e
	}
	rows, weights, y, _ := solve.Design(l, s.at, s.bias)
	f, e := normal.Solve(rows, weights, y)
	if e != api.OK {
		return false, e
	}
	p, _ := normal.Project(rows, weights)
	for i := range l {
		sum := new(big.Rat)
		for k, b := range budgets {
			part := new(big.Rat).Abs(value(p[i][k]))
			sum.Add(sum, part.Mul(part, new(big.Rat).SetInt64(int64(b))))
		}
		if sum.Mul(sum, big.NewRat(1<<30, 1)).Cmp(new(big.Rat).Abs(value(f.Resid[i]))) < 0 {
			return false, api.OK
		}
	}
	return true, api.OK
}

// spread returns the greatest differences of solutions from the first one, with their levels.
func spread(x solution, least [4]int, l []solution, levels [][4]int) [4]int {
	abs := func(n int) int { return max(n, -n) }
	for i, y := range l {
		for k, d := range [4]int{abs(x.at.X - y.at.X), abs(x.at.Y - y.at.Y), abs(x.at.Z - y.at.Z), abs(x.bias - y.bias)} {
			least[k] = max(least[k], d+levels[i][k])
		}
	}
	return least
}

// answer returns the answer by the definition.
func answer(l []api.Sight, prior api.Point, radius, bias int) (api.Answer, api.Errno) {
	x := anchor(l, prior, radius, bias)
	first, e := level.Level(l, x.at, x.bias, prior, radius)
	if e != api.OK {
		return api.Answer{}, e
	}
	if len(l) == 4 {
		return api.Answer{Kind: api.AnswerPlain, At: x.at, Bias: x.bias, Level: first}, api.OK
	}
	ok, e := consistent(l, x, prior, radius)
	if e != api.OK {
		return api.Answer{}, e
	}
	var anchors []solution
	var levels [][4]int
	var prns []int
	for i := range l {
		part := slices.Concat(l[:i], l[i+1:])
		y := anchor(part, prior, radius, bias)
		v, e := level.Level(part, y.at, y.bias, prior, radius)
		if e != api.OK {
			return api.Answer{}, e
		}
		good := ok
		if !ok {
			if good, e = consistent(part, y, prior, radius); e != api.OK {
				return api.Answer{}, e
			}
		}
		if good {
			anchors, levels, prns = append(anchors, y), append(levels, v), append(prns, l[i].Prn)
		}
	}
	switch {
	case ok:
		return api.Answer{Kind: api.AnswerGood, At: x.at, Bias: x.bias, Level: spread(x, first, anchors, levels)}, api.OK
	case len(anchors) == 0:
		return api.Answer{Kind: api.AnswerBroken}, api.OK
	case len(anchors) == 1:
		return api.Answer{Kind: api.AnswerExcluded, At: anchors[0].at, Bias: anchors[0].bias, Level: levels[0], Excluded: prns[0]}, api.OK
	}
	y := anchors[0]
	return api.Answer{Kind: api.AnswerUnsure, At: y.at, Bias: y.bias, Level: spread(y, [4]int{}, anchors, levels)}, api.OK
}

// P35.1, P35.2, P35.4: answers, with and without a fault.
func TestAnswer(t *testing.T) {
	r := rand.New(rand.NewPCG(35, 1))
	kinds := map[int]int{}
	for n := range 50 {
		many := 4 + r.IntN(5)
		l, at, bias := random(r, many)
		prior := moved(r, at, 1<<r.IntN(24))
		radius, _ := distance.Range(prior, at)
		radius++
		faulty := map[int]bool{}
		for range n % 4 {
			i := r.IntN(many)
			faulty[l[i].Prn] = true
			l[i].Range += (1 - 2*r.IntN(2)) * 1 << (5 + r.IntN(30))
		}
		start := bias + r.IntN(2000) - 1000
		got, e := exclude.Answer(l, prior, radius, start)
		want, e2 := answer(l, prior, radius, start)
		if got != want || e != e2 {
			t.Fatalf("Answer = %v, %v, want %v, %v", got, e, want, e2)
		}
		if e != api.OK {
			continue
		}
		kinds[got.Kind]++
		p, b, e := exclude.Anchor(l, prior, radius, start)
		if x := anchor(l, prior, radius, start); p != x.at || b != x.bias || e != api.OK {
			t.Fatalf("Anchor = %v, %d, %v, want %v", p, b, e, x)
		}
		covered := level.Covers(got.Level, got.At, got.Bias, at, bias)
		if len(faulty) == 0 && !covered || len(faulty) == 1 && got.Kind != api.AnswerPlain && !covered {
			t.Fatalf("%v does not cover %v, %d", got, at, bias)
		}
		if len(faulty) <= 1 && (got.Kind == api.AnswerBroken || got.Excluded != 0 && !faulty[got.Excluded]) {
			t.Fatalf("%v, but faulty are %v", got, faulty)
		}
	}
	for kind := api.AnswerPlain; kind <= api.AnswerBroken; kind++ {
		if kinds[kind] == 0 {
			t.Errorf("no answer is of the kind %d: %v", kind, kinds)
		}
	}
}

// P35.1, P35.3, P35.5: consistency.
func TestConsistent(t *testing.T) {
	r := rand.New(rand.NewPCG(35, 2))
	both := map[bool]int{}
	for range 40 {
		l, at, bias := random(r, 5+r.IntN(5))
		prior := moved(r, at, 10000)
		radius, _ := distance.Range(prior, at)
		x := solution{moved(r, at, 100000), bias + r.IntN(1000)}
		ok, e := exclude.Consistent(l, x.at, x.bias, prior, radius+1)
		if !ok || e != api.OK {
			t.Fatalf("right sights are not consistent: %v", e)
		}
		// P35.5: a great change is noticed.
		i := r.IntN(len(l))
		rows, weights, _, _ := solve.Design(l, x.at, x.bias)
		p, _ := normal.Project(rows, weights)
		budgets, _ := level.Budget(l, x.at, prior, radius+1)
		bound := new(big.Rat)
		for k, b := range budgets {
			part := new(big.Rat).Abs(value(p[i][k]))
			bound.Add(bound, part.Mul(part, new(big.Rat).SetInt64(int64(b))))
		}
		if value(p[i][i]).Cmp(big.NewRat(1, 1000)) > 0 {
			bound.Mul(bound, big.NewRat(2, 1)).Quo(bound, value(p[i][i]))
			limit, _ := bound.Float64()
			l[i].Range += int(limit) + 2
			if ok, e := exclude.Consistent(l, x.at, x.bias, prior, radius+1); ok || e != api.OK {
				t.Fatalf("a change by %v is not noticed: %v", limit, e)
			}
			l[i].Range -= int(limit) + 2
		}
		l[i].Range += 1 << r.IntN(24)
		want, e := consistent(l, x, prior, radius+1)
		got, e2 := exclude.Consistent(l, x.at, x.bias, prior, radius+1)
		if got != want || e != e2 {
			t.Fatalf("Consistent = %v, %v, want %v", got, e2, want)
		}
		both[got]++
	}
	if both[true] == 0 || both[false] == 0 {
		t.Errorf("the sights are consistent or not: %v", both)
	}
}

// P35.6: the order of the sights.
func TestOrder(t *testing.T) {
	r := rand.New(rand.NewPCG(35, 3))
	for range 10 {
		l, at, bias := random(r, 6)
		l[2].Range += []int{0, 300000000}[r.IntN(2)]
		want, e := exclude.Answer(l, at, 1000, bias)
		r.Shuffle(len(l), func(i, k int) { l[i], l[k] = l[k], l[i] })
		if got, e2 := exclude.Answer(l, at, 1000, bias); e != api.OK || e2 != api.OK || got.Kind != api.AnswerUnsure && got != want {
			t.Fatalf("the order changes %v to %v", want, got)
		}
	}
}

// The examples of the chapter.
func TestExamples(t *testing.T) {
	e := example()
	for _, bias := range []int{500, 0} {
		if p, b, err := exclude.Anchor(e, api.Point{}, 1000, bias); p != (api.Point{}) || b != 500 || err != api.OK {
			t.Errorf("Anchor = %v, %d, %v", p, b, err)
		}
	}
	f := example()
	f[5].Range += 100000
	for i, l := range [][]api.Sight{e, f} {
		if ok, err := exclude.Consistent(l, api.Point{}, 500, api.Point{}, 0); ok != (i == 0) || err != api.OK {
			t.Errorf("%d: Consistent = %v, %v", i, ok, err)
		}
	}
	if a, err := exclude.Answer(e[:4], api.Point{}, 0, 500); a != (api.Answer{Kind: api.AnswerPlain, Bias: 500, Level: [4]int{1004, 2008, 2008, 1004}}) || err != api.OK {
		t.Errorf("Answer = %v, %v", a, err)
	}
	if a, err := exclude.Answer(e, api.Point{}, 0, 500); a != (api.Answer{Kind: api.AnswerGood, Bias: 500, Level: [4]int{2008, 2008, 2008, 1004}}) || err != api.OK {
		t.Errorf("Answer = %v, %v", a, err)
	}
	if a, err := exclude.Answer(e[:5], api.Point{}, 0, 500); a != (api.Answer{}) || err != api.ErrSingular {
		t.Errorf("Answer = %v, %v", a, err)
	}
}

// The errors, in their order.
func TestErrors(t *testing.T) {
	e := example()
	out := api.Point{Y: near + 1}
	zero := example()
	zero[5].Sat = api.Point{X: 7}
	for i, x := range []struct {
		l                  []api.Sight
		prior              api.Point
		radius, bias       int
		anchor, consistent api.Errno
		answer             api.Errno
	}{
		{e[:3], out, -1, most + 1, api.ErrShort, api.ErrShort, api.ErrShort}, {e, out, 0, 0, api.ErrRange, api.ErrRange, api.ErrRange}, {e, api.Point{}, -1, 0, api.ErrRange, api.ErrRange, api.ErrRange}, {e, api.Point{}, near + 1, 0, api.ErrRange, api.ErrRange, api.ErrRange},
		{zero, api.Point{X: 7}, 0, most + 1, api.ErrRange, api.ErrRange, api.ErrRange}, {zero, api.Point{X: 7}, 0, -most - 1, api.ErrRange, api.ErrRange, api.ErrRange}, {zero, api.Point{X: 7}, 0, -1 << 63, api.ErrRange, api.ErrRange, api.ErrRange},
		{zero, api.Point{X: 7}, 0, 0, api.OK, api.ErrZero, api.ErrZero}, {e, api.Point{}, far, 0, api.OK, api.ErrState, api.ErrState}, {e, api.Point{}, near, 0, api.OK, api.ErrState, api.ErrState},
	} {
		_, _, e1 := exclude.Anchor(x.l, x.prior, x.radius, x.bias)
		ok, e2 := exclude.Consistent(x.l, x.prior, x.bias, x.prior, x.radius)
		a, e3 := exclude.Answer(x.l, x.prior, x.radius, x.bias)
		if e1 != x.anchor || e2 != x.consistent || e3 != x.answer || ok || a != (api.Answer{}) {
			t.Errorf("%d: %v, %v, %v", i, e1, e2, e3)
		}
	}
	if ok, err := exclude.Consistent(e, out, 0, api.Point{}, 0); ok || err != api.ErrRange {
		t.Errorf("Consistent = %v, %v", ok, err)
	}
	flat := example()[:4]
	flat[3].Sat.X = far
	if ok, err := exclude.Consistent(flat, api.Point{}, 0, api.Point{}, 0); ok || err != api.ErrSingular {
		t.Errorf("Consistent = %v, %v", ok, err)
	}
	if a, err := exclude.Answer(flat, api.Point{}, 0, 0); a != (api.Answer{}) || err != api.ErrSingular {
		t.Errorf("Answer = %v, %v", a, err)
	}
	if p, b, err := exclude.Anchor(flat, api.Point{X: 3}, 9, 8); p != (api.Point{X: 3}) || b != 8 || err != api.OK {
		t.Errorf("Anchor = %v, %d, %v", p, b, err)
	}
}
