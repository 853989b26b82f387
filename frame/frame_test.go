package frame_test

import (
	"math/rand/v2"
	"reflect"
	"slices"
	"testing"

	"skyfix/api"
	"skyfix/frame"
	"skyfix/parity"
)

func random(r *rand.Rand, words int) api.Frame {
	room, _ := frame.Room(words)
	f := api.Frame{Tow: r.IntN(1 << 17), Kind: r.IntN(8)}
	if r.IntN(4) == 0 {
		f.Tow = 1<<17 - 1
	}
	for range room {
		f.Data = append(f.Data, r.IntN(2))
	}
	return f
}

// next returns a frame that follows f.
func next(r *rand.Rand, f api.Frame, words int) api.Frame {
	g := random(r, words)
	g.Tow = (f.Tow + 1) % (1 << 17)
	return g
}

func bits(t *testing.T, f api.Frame, words int) []int {
	t.Helper()
	l, e := frame.Make(f, words)
	if e != api.OK || len(l) != 30*words {
		t.Fatalf("Make = %v, %v", l, e)
	}
	return l
}

func inverted(l []int) []int {
	out := slices.Clone(l)
	for i := range out {
		out[i] = 1 - out[i]
	}
	return out
}

func number(l []int) int {
	n := 0
	for _, b := range l {
		n = 2*n + b
	}
	return n
}

// P24.1: room, and the words of a frame.
func TestMake(t *testing.T) {
	for words := -1; words <= 12; words++ {
		room, e := frame.Room(words)
		if words < 2 || words > 10 {
			l, e2 := frame.Make(api.Frame{Tow: -1}, words)
			f, fault := frame.Read(nil, words)
			x, e3 := frame.Find([]int{7}, words, -1)
			y, e4 := frame.All([]int{7}, words)
			if room != 0 || l != nil || !reflect.DeepEqual(f, api.Frame{}) || !reflect.DeepEqual(x, api.Found{}) || y != nil {
				t.Errorf("%d words: there is a result", words)
			}
			if e != api.ErrRange || e2 != api.ErrRange || fault != (api.Fault{Err: api.ErrRange}) || e3 != api.ErrRange || e4 != api.ErrRange {
				t.Errorf("%d words: %v, %v, %v, %v, %v", words, e, e2, fault, e3, e4)
			}
			continue
		}
		if want := map[bool]int{true: 16, false: 16 + 24*(words-3) + 22}[words == 2]; room != want || e != api.OK {
			t.Errorf("Room(%d) = %d, %v", words, room, e)
		}
	}
	r := rand.New(rand.NewPCG(24, 1))
	for range 200 {
		words := 2 + r.IntN(9)
		f := random(r, words)
		l, fault := parity.Words(bits(t, f, words))
		data, fault2 := parity.Unchain(l, 0, 0)
		if fault != (api.Fault{}) || fault2 != (api.Fault{}) || len(l) != words {
			t.Fatalf("Make: %v, %v", fault, fault2)
		}
		if data[0] != 0b10001011<<16|number(f.Data[:16]) || data[1]>>2 != f.Tow<<5|f.Kind<<2 || l[1]&3 != 0 || l[words-1]&3 != 0 {
			t.Fatalf("Make(%v) has the data %v", f, data)
		}
		rest := f.Data[16:]
		for i := 2; i < words-1; i++ {
			if data[i] != number(rest[:24]) {
				t.Fatalf("the word %d has the data %d", i, data[i])
			}
			rest = rest[24:]
		}
		if words > 2 && data[words-1]>>2 != number(rest) {
			t.Fatalf("the last word has the data %d", data[words-1])
		}
	}
}

// P24.1: the errors of Make, in their order.
func TestMakeErrors(t *testing.T) {
	z := make([]int, 16)
	for i, x := range []struct {
		f api.Frame
		e api.Errno
	}{
		{api.Frame{Tow: -1}, api.ErrRange}, {api.Frame{Tow: 131072}, api.ErrRange}, {api.Frame{Kind: 8}, api.ErrRange}, {api.Frame{Kind: -1}, api.ErrRange}, {api.Frame{}, api.ErrForm}, {api.Frame{Data: z[1:]}, api.ErrForm},
		{api.Frame{Data: append([]int{2}, z...)}, api.ErrForm}, {api.Frame{Data: append([]int{2}, z[1:]...)}, api.ErrRange}, {api.Frame{Data: append([]int{-1}, z[1:]...)}, api.ErrRange}, {api.Frame{Tow: 131071, Kind: 7, Data: z}, api.OK},
	} {
		if l, e := frame.Make(x.f, 2); e != x.e || (l == nil) != (e != api.OK) {
			t.Errorf("%d: Make = %v, %v, want %v", i, l, e, x.e)
		}
	}
}

// P24.2, P24.4: Read returns what was made, and notices up to three wrong bits in a word.
func TestRead(t *testing.T) {
	r := rand.New(rand.NewPCG(24, 2))
	for range 400 {
		words := 2 + r.IntN(9)
		f := random(r, words)
		l := bits(t, f, words)
		before := slices.Clone(l)
		got, fault := frame.Read(l, words)
		if !reflect.DeepEqual(got, f) || fault != (api.Fault{}) || !slices.Equal(l, before) {
			t.Fatalf("Read = %v, %v, want %v", got, fault, f)
		}
		word := r.IntN(words)
		for _, k := range r.Perm(30)[:1+r.IntN(3)] {
			l[30*word+k] ^= 1
		}
		got, fault = frame.Read(l, words)
		if !reflect.DeepEqual(got, api.Frame{}) || fault == (api.Fault{}) {
			t.Fatalf("Read = %v, %v", got, fault)
		}
		if slices.Equal(l[:8], before[:8]) && fault != (api.Fault{Err: api.ErrSum, At: 30 * word}) {
			t.Fatalf("Read: %v, want ErrSum at %d", fault, 30*word)
		}
	}
}

// chained returns the bits of words with any data.
func chained(data ...int) []int {
	l, _ := parity.Chain(data, 0, 0)
	bits, _ := parity.Bits(l)
	return bits
}

// P24.2: the faults of Read, in their order.
func TestReadFaults(t *testing.T) {
	first := 0b10001011 << 16
	w, _ := parity.Encode(first, 0, 0)
	d29, d30 := int(w>>1&1), int(w&1)
	open, _ := parity.Close(5<<2, d29, d30)
	closed, _ := parity.Data(open, d29, d30)
	good := chained(first, closed)
	if _, f := frame.Read(good, 2); f != (api.Fault{}) {
		t.Fatalf("Read: %v", f)
	}
	bad := slices.Clone(good)
	bad[59] = 2
	bad[0] = 0
	reserved, _ := parity.Close(5<<2|1, d29, d30)
	other, _ := parity.Data(reserved, d29, d30)
	for i, x := range []struct {
		l     []int
		words int
		f     api.Fault
	}{
		{nil, 2, api.Fault{Err: api.ErrShort}}, {bad[:59], 2, api.Fault{Err: api.ErrShort, At: 59}}, {append([]int{7}, bad...), 2, api.Fault{Err: api.ErrLong, At: 60}}, {bad, 2, api.Fault{Err: api.ErrRange, At: 59}},
		{make([]int, 60), 2, api.Fault{Err: api.ErrForm}}, {inverted(good), 2, api.Fault{Err: api.ErrForm}}, {chained(first, closed^1), 2, api.Fault{Err: api.ErrForm, At: 30}}, {chained(first, closed^3), 2, api.Fault{Err: api.ErrForm, At: 30}},
		{chained(first, other), 2, api.Fault{Err: api.ErrForm, At: 30}}, {chained(first, closed, 0x800000), 3, api.Fault{Err: api.ErrForm, At: 60}}, {chained(first, closed, 1<<20|9, 2), 4, api.Fault{Err: api.ErrForm, At: 90}},
		{chained(first, other, 1), 3, api.Fault{Err: api.ErrForm, At: 30}},
	} {
		if f, fault := frame.Read(x.l, x.words); !reflect.DeepEqual(f, api.Frame{}) || fault != x.f {
			t.Errorf("%d: Read: %v, want %v", i, fault, x.f)
		}
	}
	// A sum comes before the form, word by word.
	l := chained(first, closed^1)
	l[29] ^= 1
	if _, fault := frame.Read(l, 2); fault != (api.Fault{Err: api.ErrSum}) {
		t.Errorf("Read: %v", fault)
	}
}

// stands returns the frame at a place of a stream, and whether it is inverted.
func stands(stream []int, words, at int) (api.Frame, bool, bool) {
	if at+30*words > len(stream) {
		return api.Frame{}, false, false
	}
	part := stream[at : at+30*words]
	if f, fault := frame.Read(part, words); fault == (api.Fault{}) {
		return f, false, true
	}
	f, fault := frame.Read(inverted(part), words)
	return f, true, fault == (api.Fault{})
}

// followed reports whether the frame at a place is followed.
func followed(stream []int, words, at int) bool {
	f, a, ok := stands(stream, words, at)
	g, b, ok2 := stands(stream, words, at+30*words)
	return ok && ok2 && a == b && g.Tow == (f.Tow+1)%(1<<17)
}

// P24.3, P24.6: streams of frames and noise, searched by the definition.
func TestStreams(t *testing.T) {
	r := rand.New(rand.NewPCG(24, 3))
	for range 60 {
		words := 2 + r.IntN(3)
		var stream []int
		for range 1 + r.IntN(4) {
			for range r.IntN(40) {
				stream = append(stream, r.IntN(2))
			}
			f := random(r, words)
			flip := r.IntN(2) == 0
			for range r.IntN(4) {
				l := bits(t, f, words)
				if flip {
					l = inverted(l)
				}
				stream = append(stream, l...)
				f = next(r, f, words)
			}
		}
		var want []api.Found
		for at := 0; at < len(stream); at++ {
			if !followed(stream, words, at) {
				continue
			}
			for {
				f, flip, _ := stands(stream, words, at)
				want = append(want, api.Found{At: at, Inverted: flip, Frame: f})
				more := followed(stream, words, at)
				at += 30 * words
				if !more {
					break
				}
			}
			at--
		}
		got, e := frame.All(stream, words)
		if !reflect.DeepEqual(got, want) || e != api.OK {
			t.Fatalf("All = %v, %v, want %v", got, e, want)
		}
		checkFind(t, stream, words, r.IntN(len(stream)+2))
	}
}

// checkFind checks Find from a place on.
func checkFind(t *testing.T, stream []int, words, from int) {
	t.Helper()
	var first api.Found
	want := api.ErrNone
	for at := from; at < len(stream) && want != api.OK; at++ {
		if followed(stream, words, at) {
			f, flip, _ := stands(stream, words, at)
			first, want = api.Found{At: at, Inverted: flip, Frame: f}, api.OK
		}
	}
	if got, e := frame.Find(stream, words, from); !reflect.DeepEqual(got, first) || e != want {
		t.Fatalf("Find(%d) = %v, %v, want %v, %v", from, got, e, first, want)
	}
}

// P24.5: frames behind equal bits.
func TestEqualBits(t *testing.T) {
	r := rand.New(rand.NewPCG(24, 4))
	for range 100 {
		words := 2 + r.IntN(9)
		lead := r.IntN(50)
		stream := make([]int, lead)
		var want []api.Found
		f := random(r, words)
		for i := range 2 + r.IntN(3) {
			stream = append(stream, bits(t, f, words)...)
			want = append(want, api.Found{At: lead + 30*words*i, Frame: f})
			f = next(r, f, words)
		}
		if got, e := frame.All(stream, words); !reflect.DeepEqual(got, want) || e != api.OK {
			t.Fatalf("All = %v, %v, want %v", got, e, want)
		}
		for i := range want {
			want[i].Inverted = true
		}
		if got, e := frame.All(inverted(stream), words); !reflect.DeepEqual(got, want) || e != api.OK {
			t.Fatalf("All of the inverted stream = %v, %v, want %v", got, e, want)
		}
	}
}

// The examples of the chapter.
func TestExamples(t *testing.T) {
	f := api.Frame{Tow: 5, Kind: 3, Data: make([]int, 16)}
	g := f
	g.Tow = 6
	a, b := bits(t, f, 2), bits(t, g, 2)
	zeros := make([]int, 5)
	if x, e := frame.Find(slices.Concat(zeros, a, b), 2, 0); x.At != 5 || x.Inverted || !reflect.DeepEqual(x.Frame, f) || e != api.OK {
		t.Errorf("Find = %v, %v", x, e)
	}
	for i, x := range []struct {
		l    []int
		from int
	}{{slices.Concat(zeros, a, b), 6}, {a, 0}, {slices.Concat(a, a), 0}, {slices.Concat(a, inverted(b)), 0}, {a, 1 << 62}, {nil, 0}} {
		if found, e := frame.Find(x.l, 2, x.from); !reflect.DeepEqual(found, api.Found{}) || e != api.ErrNone {
			t.Errorf("%d: Find = %v, %v", i, found, e)
		}
	}
	l, _ := frame.All(slices.Concat(a, b, zeros[:1], a, b), 2)
	var places []int
	for _, x := range l {
		places = append(places, x.At)
	}
	if !slices.Equal(places, []int{0, 60, 121, 181}) {
		t.Errorf("All finds frames at %v", places)
	}
}

// P24.3: the errors of streams.
func TestStreamErrors(t *testing.T) {
	long := make([]int, 1<<20+1)
	long[5] = 2
	for i, x := range []struct {
		l    []int
		from int
		e    api.Errno
	}{{long, -1, api.ErrLong}, {[]int{0, 2}, 0, api.ErrRange}, {[]int{-1}, 0, api.ErrRange}, {[]int{0}, -1, api.ErrRange}, {make([]int, 1<<20), 0, api.ErrNone}} {
		f, e := frame.Find(x.l, 2, x.from)
		if !reflect.DeepEqual(f, api.Found{}) || e != x.e {
			t.Errorf("%d: Find = %v, %v, want %v", i, f, e, x.e)
		}
		l, e := frame.All(x.l, 2)
		if want := x.e; l != nil || e != want && !(e == api.OK && (x.from < 0 || want == api.ErrNone)) {
			t.Errorf("%d: All = %v, %v, want %v", i, l, e, want)
		}
	}
}
