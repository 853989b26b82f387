package block_test

import (
	"math/rand/v2"
	"slices"
	"testing"

	"skyfix/api"
	"skyfix/block"
)

// times multiplies symbols as polynomials.
func times(a, b int) int {
	p := 0
	for i := range 4 {
		if b>>i&1 == 1 {
			p ^= a << i
		}
	}
	for i := 6; i >= 4; i-- {
		if p>>i&1 == 1 {
			p ^= 19 << (i - 4)
		}
	}
	return p
}

// value returns the value of a word's polynomial.
func value(word []int, x int) int {
	v := 0
	for _, c := range word {
		v = times(v, x) ^ c
	}
	return v
}

func random(r *rand.Rand, n int) []int {
	l := make([]int, n)
	for i := range l {
		l[i] = r.IntN(16)
	}
	return l
}

// P23.1: symbols.
func TestSymbols(t *testing.T) {
	for a := range 16 {
		for b := range 16 {
			if p, e := block.Times(a, b); p != times(a, b) || e != api.OK {
				t.Fatalf("Times(%d, %d) = %d, %v", a, b, p, e)
			}
		}
	}
	for _, x := range [][2]int{{16, 1}, {1, 16}, {-1, 1}, {1, -1}, {1 << 62, 0}} {
		if p, e := block.Times(x[0], x[1]); p != 0 || e != api.ErrRange {
			t.Errorf("Times(%v) = %d, %v", x, p, e)
		}
	}
	want := []int{1, 2, 4, 8, 3, 6, 12, 11, 5, 10, 7, 14, 15, 13, 9}
	for n := -45; n < 45; n++ {
		if p := block.Power(n); p != want[(n+45)%15] {
			t.Errorf("Power(%d) = %d", n, p)
		}
	}
	const top, bottom = 1<<63 - 1, -1 << 63
	if block.Power(top) != want[top%15] || block.Power(bottom) != want[15+bottom%15] {
		t.Error("Power of the greatest exponents is wrong")
	}
}

// P23.1: generators.
func TestGen(t *testing.T) {
	for n := 1; n <= 6; n++ {
		g, e := block.Gen(n)
		if e != api.OK || len(g) != 2*n+1 || g[0] != 1 {
			t.Fatalf("Gen(%d) = %v, %v", n, g, e)
		}
		for i := 1; i <= 15; i++ {
			if (value(g, block.Power(i)) == 0) != (i <= 2*n) {
				t.Errorf("Gen(%d) is %d at the power %d", n, value(g, block.Power(i)), i)
			}
		}
	}
	if g, _ := block.Gen(2); !slices.Equal(g, []int{1, 13, 12, 8, 7}) {
		t.Errorf("Gen(2) = %v", g)
	}
}

// P23.2, P23.6: codewords and syndromes.
func TestEncode(t *testing.T) {
	r := rand.New(rand.NewPCG(23, 1))
	for range 500 {
		n := 1 + r.IntN(6)
		data, other := random(r, 15-2*n), random(r, 15-2*n)
		word, e := block.Encode(data, n)
		if e != api.OK || !slices.Equal(word[:len(data)], data) {
			t.Fatalf("Encode = %v, %v", word, e)
		}
		second, _ := block.Encode(other, n)
		sum := make([]int, 15)
		differ := 0
		for i := range sum {
			sum[i] = word[i] ^ times(7, second[i])
			if word[i] != second[i] {
				differ++
			}
		}
		for _, w := range [][]int{word, sum} {
			if s, e := block.Syndromes(w, n); !slices.Equal(s, make([]int, 2*n)) || e != api.OK {
				t.Fatalf("Syndromes of a codeword = %v, %v", s, e)
			}
		}
		if !slices.Equal(data, other) && differ < 2*n+1 {
			t.Fatalf("two codewords differ at %d places", differ)
		}
		w := random(r, 15)
		s, e := block.Syndromes(w, n)
		for i := range 2 * n {
			if s[i] != value(w, block.Power(i+1)) || e != api.OK {
				t.Fatalf("Syndromes = %v, %v", s, e)
			}
		}
	}
}

// damaged changes e places of a word, and s more that are erased, all different ones.
func damaged(r *rand.Rand, word []int, e, s int) (wrong, erased, changed []int) {
	wrong = slices.Clone(word)
	places := r.Perm(15)[:e+s]
	erased = slices.Sorted(slices.Values(places[e:]))
	for i, k := range places {
		if i < e {
			wrong[k] ^= 1 + r.IntN(15)
		} else {
			wrong[k] = r.IntN(16)
		}
	}
	for k := range wrong {
		if wrong[k] != word[k] {
			changed = append(changed, k)
		}
	}
	return wrong, erased, changed
}

// P23.3, P23.5: all that can be repaired is repaired.
func TestDecode(t *testing.T) {
	r := rand.New(rand.NewPCG(23, 2))
	for n := 1; n <= 6; n++ {
		for e := 0; e <= n; e++ {
			for s := 0; 2*e+s <= 2*n; s++ {
				for range 60 {
					data := random(r, 15-2*n)
					word, _ := block.Encode(data, n)
					wrong, erased, changed := damaged(r, word, e, s)
					before := slices.Clone(wrong)
					got, fixed, err := block.Decode(wrong, erased, n)
					if !slices.Equal(got, data) || !slices.Equal(fixed, changed) || err != api.OK {
						t.Fatalf("t %d, %d errors, %d erased: %v, %v, %v", n, e, s, got, fixed, err)
					}
					if !slices.Equal(wrong, before) {
						t.Fatal("the word has changed")
					}
				}
			}
		}
	}
}

// P23.3: any word with any erased places, against all codewords of t = 6, which are few.
func TestNearest(t *testing.T) {
	var all [][]int
	for i := range 16 * 16 * 16 {
		w, _ := block.Encode([]int{i / 256, i / 16 % 16, i % 16}, 6)
		all = append(all, w)
	}
	r := rand.New(rand.NewPCG(23, 3))
	none := 0
	for range 400 {
		word := random(r, 15)
		if r.IntN(3) > 0 {
			word, _, _ = damaged(r, all[r.IntN(len(all))], r.IntN(10), 0)
		}
		erased := slices.Sorted(slices.Values(r.Perm(15)[:r.IntN(14)]))
		var near, changed []int
		for _, w := range all {
			distance := 0
			var c []int
			for k := range w {
				if w[k] != word[k] {
					c = append(c, k)
					if !slices.Contains(erased, k) {
						distance++
					}
				}
			}
			if 2*distance+len(erased) <= 12 {
				near, changed = w[:3], c
			}
		}
		want := api.OK
		if near == nil {
			want = api.ErrNone
			none++
		}
		data, fixed, e := block.Decode(word, erased, 6)
		if !slices.Equal(data, near) || !slices.Equal(fixed, changed) || e != want {
			t.Fatalf("Decode(%v, %v) = %v, %v, %v, want %v, %v", word, erased, data, fixed, e, near, changed)
		}
	}
	if none == 0 || none == 400 {
		t.Errorf("%d of 400 words have no codeword near", none)
	}
}

// P23.3: any word for t = 1 and 2, against all changes.
func TestFewErrors(t *testing.T) {
	r := rand.New(rand.NewPCG(23, 4))
	zero := func(w []int, n int) bool {
		s, _ := block.Syndromes(w, n)
		return !slices.ContainsFunc(s, func(x int) bool { return x != 0 })
	}
	for range 300 {
		word := random(r, 15)
		var near []int
		for k := range 15 {
			for x := range 16 {
				w := slices.Clone(word)
				w[k] = x
				if zero(w, 1) {
					near = w[:13]
				}
			}
		}
		data, _, e := block.Decode(word, nil, 1)
		if !slices.Equal(data, near) || (e == api.ErrNone) != (near == nil) {
			t.Fatalf("Decode(%v) = %v, %v, want %v", word, data, e, near)
		}
	}
}

// P23.4, P23.7: weaving.
func TestWeave(t *testing.T) {
	r := rand.New(rand.NewPCG(23, 5))
	for _, depth := range []int{1, 2, 7, 100} {
		n := 1 + r.IntN(6)
		var words, datas [][]int
		for range depth {
			datas = append(datas, random(r, 15-2*n))
			w, _ := block.Encode(datas[len(datas)-1], n)
			words = append(words, w)
		}
		woven, e := block.Weave(words)
		if e != api.OK || len(woven) != 15*depth {
			t.Fatal(e)
		}
		for i, x := range woven {
			if x != words[i%depth][i/depth] {
				t.Fatalf("the symbol %d is %d", i, x)
			}
		}
		from := r.IntN(len(woven) - n*depth + 1)
		for i := range n * depth {
			woven[from+i] ^= r.IntN(16)
		}
		back, e := block.Unweave(woven, depth)
		if e != api.OK || len(back) != depth {
			t.Fatal(e)
		}
		for i, w := range back {
			if data, _, e := block.Decode(w, nil, n); !slices.Equal(data, datas[i]) || e != api.OK {
				t.Fatalf("the word %d is decoded to %v, %v", i, data, e)
			}
		}
	}
	z := make([]int, 15)
	for i, x := range []struct {
		l [][]int
		e api.Errno
	}{{nil, api.ErrRange}, {make([][]int, 101), api.ErrRange}, {[][]int{z, z[1:]}, api.ErrForm}, {[][]int{z, append(z, 0)}, api.ErrForm}, {[][]int{append(make([]int, 14), 16), nil}, api.ErrRange}, {[][]int{nil, append(make([]int, 14), 16)}, api.ErrForm}} {
		if w, e := block.Weave(x.l); w != nil || e != x.e {
			t.Errorf("%d: Weave = %v, %v, want %v", i, w, e, x.e)
		}
	}
	for i, x := range []struct {
		l     []int
		depth int
		e     api.Errno
	}{{z, 0, api.ErrRange}, {z, 101, api.ErrRange}, {z, -1, api.ErrRange}, {z, 2, api.ErrForm}, {nil, 1, api.ErrForm}, {append(make([]int, 15), -1), 1, api.ErrForm}, {append(make([]int, 14), -1), 1, api.ErrRange}} {
		if w, e := block.Unweave(x.l, x.depth); w != nil || e != x.e {
			t.Errorf("%d: Unweave = %v, %v, want %v", i, w, e, x.e)
		}
	}
}

// P23.1, P23.2, P23.3: the errors, in their order.
func TestErrors(t *testing.T) {
	z := make([]int, 15)
	for _, n := range []int{0, -1, 7, 1 << 62} {
		g, e1 := block.Gen(n)
		w, e2 := block.Encode(nil, n)
		s, e3 := block.Syndromes(nil, n)
		d, f, e4 := block.Decode(nil, nil, n)
		if e1 != api.ErrRange || e2 != api.ErrRange || e3 != api.ErrRange || e4 != api.ErrRange || g != nil || w != nil || s != nil || d != nil || f != nil {
			t.Errorf("%d: %v, %v, %v, %v", n, e1, e2, e3, e4)
		}
	}
	bad := append(make([]int, 14), 16)
	for i, x := range []struct {
		word, erased []int
		t            int
		e            api.Errno
	}{
		{z[1:], []int{-1}, 1, api.ErrForm}, {bad, []int{-1}, 1, api.ErrRange}, {append(make([]int, 14), -1), nil, 1, api.ErrRange}, {z, []int{-1}, 1, api.ErrRange}, {z, []int{15}, 1, api.ErrRange},
		{z, []int{1, 1}, 1, api.ErrRange}, {z, []int{2, 1}, 1, api.ErrRange}, {z, []int{0, 1, 1}, 1, api.ErrRange}, {z, []int{0, 1, 2}, 1, api.ErrNone}, {append(make([]int, 13), 1, 2), nil, 1, api.ErrNone},
	} {
		if d, f, e := block.Decode(x.word, x.erased, x.t); d != nil || f != nil || e != x.e {
			t.Errorf("%d: Decode = %v, %v, %v, want %v", i, d, f, e, x.e)
		}
	}
	for i, x := range []struct {
		l []int
		e api.Errno
	}{{z[3:], api.ErrForm}, {z[1:], api.ErrForm}, {append(make([]int, 12), 16), api.ErrRange}, {append(make([]int, 12), -1), api.ErrRange}} {
		if w, e := block.Encode(x.l, 1); w != nil || e != x.e {
			t.Errorf("%d: Encode = %v, %v, want %v", i, w, e, x.e)
		}
	}
	if s, e := block.Syndromes(z[1:], 1); s != nil || e != api.ErrForm {
		t.Errorf("Syndromes = %v, %v", s, e)
	}
	if s, e := block.Syndromes(bad, 1); s != nil || e != api.ErrRange {
		t.Errorf("Syndromes = %v, %v", s, e)
	}
}
