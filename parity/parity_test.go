package parity_test

import (
	"math/rand/v2"
	"slices"
	"testing"

	"skyfix/api"
	"skyfix/parity"
)

// word returns the word of some data by the definition.
func word(data, d29, d30 int) api.Word {
	d := make([]int, 25)
	for i := 1; i <= 24; i++ {
		d[i] = data >> (24 - i) & 1
	}
	sum := func(first int, l ...int) int {
		for _, i := range l {
			first += d[i]
		}
		return first % 2
	}
	w := 0
	for i := 1; i <= 24; i++ {
		w = w<<1 | (d[i]+d30)%2
	}
	for _, p := range []int{
		sum(d29, 1, 2, 3, 5, 6, 10, 11, 12, 13, 14, 17, 18, 20, 23),
		sum(d30, 2, 3, 4, 6, 7, 11, 12, 13, 14, 15, 18, 19, 21, 24),
		sum(d29, 1, 3, 4, 5, 7, 8, 12, 13, 14, 15, 16, 19, 20, 22),
		sum(d30, 2, 4, 5, 6, 8, 9, 13, 14, 15, 16, 17, 20, 21, 23),
		sum(d30, 1, 3, 5, 6, 7, 9, 10, 14, 15, 16, 17, 18, 21, 22, 24),
		sum(d29, 3, 5, 6, 8, 9, 10, 11, 13, 15, 19, 22, 23, 24),
	} {
		w = w<<1 | p
	}
	return api.Word(w)
}

// before is every pair of bits before a word.
var before = [][2]int{{0, 0}, {0, 1}, {1, 0}, {1, 1}}

// P22.1, P22.2, P22.6: words and their data.
func TestWords(t *testing.T) {
	r := rand.New(rand.NewPCG(22, 1))
	for range 2000 {
		data := r.IntN(1 << 24)
		for _, b := range before {
			w, e := parity.Encode(data, b[0], b[1])
			if w != word(data, b[0], b[1]) || e != api.OK {
				t.Fatalf("Encode(%d, %v) = %d, %v, want %d", data, b, w, e, word(data, b[0], b[1]))
			}
			s, e := parity.Syndrome(w, b[0], b[1])
			d, e2 := parity.Data(w, b[0], b[1])
			if s != 0 || d != data || e != api.OK || e2 != api.OK {
				t.Fatalf("Syndrome, Data(%d) = %d, %d, %v, %v", w, s, d, e, e2)
			}
			c, e := parity.Close(data>>2, b[0], b[1])
			back, e2 := parity.Data(c, b[0], b[1])
			if c&3 != 0 || back>>2 != data>>2 || e != api.OK || e2 != api.OK {
				t.Fatalf("Close(%d, %v) = %d, %v, with the data %d, %v", data>>2, b, c, e, back, e2)
			}
		}
	}
	for _, x := range [][2]int{{0, 0}, {1, 83}, {8388608, 536870954}} {
		if w, _ := parity.Encode(x[0], 0, 0); int(w) != x[1] {
			t.Errorf("Encode(%d, 0, 0) = %d", x[0], w)
		}
	}
	if w, _ := parity.Encode(0, 0, 1); w != 1073741782 {
		t.Errorf("Encode(0, 0, 1) = %d", w)
	}
	if w, _ := parity.Close(1, 0, 0); w != 344 {
		t.Errorf("Close(1, 0, 0) = %d", w)
	}
}

// P22.2: each parity bit has its bit of the syndrome.
func TestSyndrome(t *testing.T) {
	r := rand.New(rand.NewPCG(22, 2))
	for range 1000 {
		data, b := r.IntN(1<<24), before[r.IntN(4)]
		w, change := word(data, b[0], b[1]), r.IntN(64)
		s, e := parity.Syndrome(w^api.Word(change), b[0], b[1])
		if s != change || e != api.OK {
			t.Fatalf("Syndrome = %d, %v, want %d", s, e, change)
		}
		d, e := parity.Data(w^api.Word(change), b[0], b[1])
		if change != 0 && (d != 0 || e != api.ErrSum) {
			t.Fatalf("Data = %d, %v", d, e)
		}
		// P22.7: the syndrome is linear.
		u, v := api.Word(r.IntN(1<<30)), api.Word(r.IntN(1<<30))
		c := before[r.IntN(4)]
		x, _ := parity.Syndrome(u, b[0], b[1])
		y, _ := parity.Syndrome(v, c[0], c[1])
		if z, _ := parity.Syndrome(u^v, b[0]^c[0], b[1]^c[1]); z != x^y {
			t.Fatalf("the syndrome of a sum is %d, not %d", z, x^y)
		}
	}
}

// P22.5: up to three wrong bits of a word are noticed.
func TestWrongBits(t *testing.T) {
	w := word(1234567, 1, 0)
	for i := range 30 {
		for j := range i + 1 {
			for k := range j + 1 {
				change := api.Word(1<<i | 1<<j | 1<<k)
				if s, _ := parity.Syndrome(w^change, 1, 0); s == 0 {
					t.Fatalf("the change %d is not noticed", change)
				}
			}
		}
	}
}

// P22.3, P22.6: chains.
func TestChain(t *testing.T) {
	r := rand.New(rand.NewPCG(22, 3))
	for range 200 {
		l := make([]int, r.IntN(20))
		b := before[r.IntN(4)]
		d29, d30 := b[0], b[1]
		var want []api.Word
		for i := range l {
			l[i] = r.IntN(1 << 24)
			w := word(l[i], d29, d30)
			d29, d30 = int(w>>1&1), int(w&1)
			want = append(want, w)
		}
		got, e := parity.Chain(l, b[0], b[1])
		if !slices.Equal(got, want) || e != api.OK {
			t.Fatalf("Chain = %v, %v, want %v", got, e, want)
		}
		back, f := parity.Unchain(got, b[0], b[1])
		if !slices.Equal(back, l) || f != (api.Fault{}) {
			t.Fatalf("Unchain = %v, %v", back, f)
		}
		if len(got) > 0 {
			k := r.IntN(len(got))
			got[k] ^= 4
			if back, f := parity.Unchain(got, b[0], b[1]); back != nil || f != (api.Fault{Err: api.ErrSum, At: k}) {
				t.Fatalf("Unchain = %v, %v", back, f)
			}
		}
	}
	if l, f := parity.Unchain([]api.Word{83, 1073741812}, 0, 0); l != nil || f != (api.Fault{Err: api.ErrSum, At: 1}) {
		t.Errorf("Unchain = %v, %v", l, f)
	}
}

// P22.4, P22.6: words and bits.
func TestBits(t *testing.T) {
	r := rand.New(rand.NewPCG(22, 4))
	for _, n := range []int{0, 1, 2, 17, 1000} {
		l := make([]api.Word, n)
		var want []int
		for i := range l {
			l[i] = api.Word(r.IntN(1 << 30))
			for k := 29; k >= 0; k-- {
				want = append(want, int(l[i]>>k&1))
			}
		}
		bits, e := parity.Bits(l)
		if !slices.Equal(bits, want) || e != api.OK {
			t.Fatalf("Bits = %v, %v", bits, e)
		}
		if back, f := parity.Words(bits); !slices.Equal(back, l) || f != (api.Fault{}) {
			t.Fatalf("Words = %v, %v", back, f)
		}
	}
	long := make([]int, 30001)
	long[0] = 2
	for i, x := range []struct {
		l []int
		f api.Fault
	}{
		{long, api.Fault{Err: api.ErrLong, At: 30000}}, {long[:30000], api.Fault{Err: api.ErrRange}}, {make([]int, 29), api.Fault{Err: api.ErrShort, At: 29}}, {make([]int, 61), api.Fault{Err: api.ErrShort, At: 61}},
		{append(make([]int, 30), 2), api.Fault{Err: api.ErrRange, At: 30}}, {append(make([]int, 30), -1, 5), api.Fault{Err: api.ErrRange, At: 30}}, {[]int{0, 1, -1 << 63}, api.Fault{Err: api.ErrRange, At: 2}},
	} {
		if w, f := parity.Words(x.l); w != nil || f != x.f {
			t.Errorf("%d: Words = %v, %v, want %v", i, w, f, x.f)
		}
	}
	for i, x := range []struct {
		l []api.Word
		e api.Errno
	}{{append(make([]api.Word, 1000), -1), api.ErrLong}, {[]api.Word{0, 1 << 30}, api.ErrRange}, {[]api.Word{-1}, api.ErrRange}} {
		if b, e := parity.Bits(x.l); b != nil || e != x.e {
			t.Errorf("%d: Bits = %v, %v, want %v", i, b, e, x.e)
		}
	}
}

// P22.1, P22.2, P22.3: the errors, in their order.
func TestErrors(t *testing.T) {
	for i, x := range [][3]int{{-1, 0, 0}, {1 << 30, 0, 0}, {0, 2, 0}, {0, 0, 2}, {0, -1, 0}, {0, 0, -1}, {-1 << 63, 0, 0}, {1 << 62, 1, 1}} {
		a, e1 := parity.Encode(x[0], x[1], x[2])
		b, e2 := parity.Close(x[0], x[1], x[2])
		c, e3 := parity.Syndrome(api.Word(x[0]), x[1], x[2])
		d, e4 := parity.Data(api.Word(x[0]), x[1], x[2])
		l, e5 := parity.Chain([]int{x[0]}, x[1], x[2])
		u, f := parity.Unchain([]api.Word{api.Word(x[0])}, x[1], x[2])
		if e1 != api.ErrRange || e2 != api.ErrRange || e3 != api.ErrRange || e4 != api.ErrRange || e5 != api.ErrRange || f != (api.Fault{Err: api.ErrRange}) {
			t.Errorf("%d: %v, %v, %v, %v, %v, %v", i, e1, e2, e3, e4, e5, f)
		}
		if a != 0 || b != 0 || c != 0 || d != 0 || l != nil || u != nil {
			t.Errorf("%d: there is a result beside an error", i)
		}
	}
	if w, e := parity.Encode(1<<24, 0, 0); w != 0 || e != api.ErrRange {
		t.Errorf("Encode of 25 bits = %v, %v", w, e)
	}
	if w, e := parity.Close(1<<22, 0, 0); w != 0 || e != api.ErrRange {
		t.Errorf("Close of 23 bits = %v, %v", w, e)
	}
	if l, e := parity.Chain(append(make([]int, 1000), -1), 2, 0); l != nil || e != api.ErrLong {
		t.Errorf("Chain = %v, %v", l, e)
	}
	if l, e := parity.Chain(nil, 2, 0); l != nil || e != api.ErrRange {
		t.Errorf("Chain of nothing = %v, %v", l, e)
	}
	if l, e := parity.Chain([]int{5, 1 << 24}, 0, 0); l != nil || e != api.ErrRange {
		t.Errorf("Chain = %v, %v", l, e)
	}
	if l, f := parity.Unchain(make([]api.Word, 1001), 2, 0); l != nil || f != (api.Fault{Err: api.ErrLong, At: 1000}) {
		t.Errorf("Unchain = %v, %v", l, f)
	}
	if l, f := parity.Unchain(nil, 0, -1); l != nil || f != (api.Fault{Err: api.ErrRange}) {
		t.Errorf("Unchain of nothing = %v, %v", l, f)
	}
	if l, f := parity.Unchain([]api.Word{83, 1 << 30}, 0, 0); l != nil || f != (api.Fault{Err: api.ErrRange, At: 1}) {
		t.Errorf("Unchain = %v, %v", l, f)
	}
	if l, e := parity.Chain(make([]int, 1000), 0, 0); len(l) != 1000 || e != api.OK {
		t.Errorf("Chain of as many as possible: %v", e)
	}
}
