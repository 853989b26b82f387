package exclude

import (
	"slices"

	"skyfix/api"
	"skyfix/level"
)

// finding is what is found out about a list of sights: its anchor, its level there, and whether it is consistent.
type finding struct {
	index      int
	anchor     solution
	level      [4]int
	consistent bool
	err        api.Errno
}

// find finds out about a list; whether it is consistent only if that is asked.
func (s search) find(index int, l []api.Sight, test bool) finding {
	f := finding{index: index, anchor: s.anchor(l)}
	if f.level, f.err = level.Level(l, f.anchor.at, f.anchor.bias, s.prior, s.radius); f.err == api.OK && test {
		f.consistent, f.err = consistent(l, f.anchor, s.prior, s.radius)
	}
	return f
}

// findParts finds out about all partial lists at the same time, and returns the findings in their order, or the first error.
func (s search) findParts(l []api.Sight, test bool) ([]finding, api.Errno) {
	results := make(chan finding)
	for i, part := range partials(l) {
		go func() { results <- s.find(i, part, test) }()
	}
	all := make([]finding, len(l))
	for range l {
		f := <-results
		all[f.index] = f
	}
	for _, f := range all {
		if f.err != api.OK {
			return nil, f.err
		}
	}
	return all, api.OK
}

// reach returns, for each unknown, how far the levels of findings reach from a solution, but at least as far as another level.
func reach(from solution, least [4]int, l []finding) [4]int {
	x := from.unknowns()
	for _, f := range l {
		for k, y := range f.anchor.unknowns() {
			least[k] = max(least[k], max(x[k]-y, y-x[k])+f.level[k])
		}
	}
	return least
}

// Answer returns the position with its integrity.
func Answer(l []api.Sight, prior api.Point, radius, bias int) (api.Answer, api.Errno) {
	if e := check(l, prior, bias, prior, radius); e != api.OK {
		return api.Answer{}, e
	}
	s := search{prior, radius, bias}
	all := s.find(0, l, len(l) > fewest)
	if all.err != api.OK {
		return api.Answer{}, all.err
	}
	if len(l) == fewest {
		return answer(api.AnswerPlain, all.anchor, all.level, 0)
	}
	parts, e := s.findParts(l, !all.consistent)
	if e != api.OK {
		return api.Answer{}, e
	}
	good := slices.DeleteFunc(slices.Clone(parts), func(f finding) bool { return !f.consistent })
	// Of several consistent lists, it does not matter how many there are.
	switch [2]any{all.consistent, min(len(good), 2)} {
	case [2]any{false, 0}:
		return api.Answer{Kind: api.AnswerBroken}, api.OK
	case [2]any{false, 1}:
		return answer(api.AnswerExcluded, good[0].anchor, good[0].level, l[good[0].index].Prn)
	case [2]any{false, 2}:
		return answer(api.AnswerUnsure, good[0].anchor, reach(good[0].anchor, [4]int{}, good), 0)
	}
	return answer(api.AnswerGood, all.anchor, reach(all.anchor, all.level, parts), 0)
}

// answer returns an answer, or ErrOver if a level is too great.
func answer(kind int, at solution, level [4]int, excluded int) (api.Answer, api.Errno) {
	for _, n := range level {
		if n > maxLevel {
			return api.Answer{}, api.ErrOver
		}
	}
	return api.Answer{Kind: kind, At: at.at, Bias: at.bias, Level: level, Excluded: excluded}, api.OK
}
