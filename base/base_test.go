package base_test

import (
	"bytes"
	"math/rand/v2"
	"reflect"
	"slices"
	"strings"
	"sync"
	"testing"

	"skyfix/api"
	"skyfix/base"
)

const (
	most = 10000000000000
	turn = 100000000000000
)

// sum returns the checksum by the definition.
func sum(b []byte) int {
	s := 0
	for _, x := range b {
		s ^= int(x) << 16
		for range 8 {
			s *= 2
			if s >= 1<<24 {
				s ^= 0x1864CFB
			}
		}
	}
	return s
}

func random(r *rand.Rand, many int) []byte {
	b := make([]byte, many)
	for i := range b {
		b[i] = byte(r.IntN(256))
		if r.IntN(5) == 0 {
			b[i] = 0xD3
		}
	}
	return b
}

// P39.1, P39.5: checksums.
func TestSum(t *testing.T) {
	var all sync.WaitGroup
	for range 4 {
		all.Go(func() { base.Sum([]byte{1}) })
	}
	all.Wait()
	r := rand.New(rand.NewPCG(39, 1))
	for range 300 {
		b := random(r, r.IntN(100))
		if s := base.Sum(b); s != sum(b) {
			t.Fatalf("Sum(%v) = %d, want %d", b, s, sum(b))
		}
	}
	for want, b := range map[int][]byte{0: {0}, 8801531: {1}, 4713035: {0xD3, 0, 0}} {
		if s := base.Sum(b); s != want {
			t.Errorf("Sum(%v) = %d", b, s)
		}
	}
	b := random(r, 40)
	before := base.Sum(b)
	for range 2000 {
		change, at := 1+r.IntN(1<<24-1), r.IntN(8*len(b)-24)
		c := slices.Clone(b)
		for i := range 24 {
			if change>>i&1 == 1 {
				c[(at+i)/8] ^= 1 << (7 - (at+i)%8)
			}
		}
		if base.Sum(c) == before {
			t.Fatalf("the change %d at %d is not noticed", change, at)
		}
	}
}

// frame returns the frame of a payload by the definition.
func frame(payload []byte) []byte {
	b := append([]byte{0xD3, byte(len(payload) >> 8), byte(len(payload))}, payload...)
	s := sum(b)
	return append(b, byte(s>>16), byte(s>>8), byte(s))
}

// P39.1, P39.2, P39.7: frames in streams.
func TestFrames(t *testing.T) {
	r := rand.New(rand.NewPCG(39, 2))
	for range 100 {
		var stream []byte
		var want [][]byte
		var at, next []int
		for range r.IntN(6) {
			for range r.IntN(20) {
				stream = append(stream, byte(r.IntN(0xD3)))
			}
			p := random(r, r.IntN(1<<r.IntN(11)))
			if len(p) > 1023 {
				p = p[:1023]
			}
			f, e := base.Wrap(p)
			if !bytes.Equal(f, frame(p)) || e != api.OK {
				t.Fatalf("Wrap = %v, %v", f, e)
			}
			at = append(at, len(stream))
			stream = append(stream, f...)
			next = append(next, len(stream))
			want = append(want, p)
		}
		all, e := base.All(stream)
		if e != api.OK || len(all) != len(want) {
			t.Fatalf("All: %d, %v, want %d", len(all), e, len(want))
		}
		from := 0
		for i, p := range want {
			payload, a, n, e := base.Next(stream, from)
			if !bytes.Equal(all[i], p) || !bytes.Equal(payload, p) || a != at[i] || n != next[i] || e != api.OK {
				t.Fatalf("Next(%d) = %v, %d, %d, %v, want %d, %d", from, payload, a, n, e, at[i], next[i])
			}
			from = n
		}
		if p, a, n, e := base.Next(stream, from); p != nil || a != 0 || n != 0 || e != api.ErrNone {
			t.Fatalf("Next(%d) = %v, %d, %d, %v", from, p, a, n, e)
		}
	}
}

// P39.2: streams of anything, by the definition.
func TestStreams(t *testing.T) {
	r := rand.New(rand.NewPCG(39, 3))
	stands := func(b []byte) int {
		for n := range 1024 {
			if len(b) >= n+6 && bytes.Equal(b[:n+6], frame(b[3:n+3])) {
				return n
			}
		}
		return -1
	}
	for range 60 {
		stream := random(r, r.IntN(60))
		for range r.IntN(4) {
			stream = append(stream, frame(random(r, r.IntN(4)))...)
			stream = append(stream, random(r, r.IntN(5))...)
		}
		for from := range len(stream) + 1 {
			want, at := -1, from
			for ; at < len(stream) && want < 0; at++ {
				want = stands(stream[at:])
			}
			p, a, n, e := base.Next(stream, from)
			if want < 0 && e != api.ErrNone || want >= 0 && (a != at-1 || len(p) != want || n != a+want+6 || e != api.OK) {
				t.Fatalf("Next(%v, %d) = %v, %d, %d, %v", stream, from, p, a, n, e)
			}
		}
	}
	long := make([]byte, 100001)
	for i, x := range []struct {
		b    []byte
		from int
		e    api.Errno
	}{{long, -1, api.ErrLong}, {nil, 1, api.ErrRange}, {nil, -1, api.ErrRange}, {[]byte{7}, 2, api.ErrRange}, {[]byte{7}, 1, api.ErrNone}, {nil, 0, api.ErrNone}, {long[1:], 0, api.ErrNone}} {
		if p, a, n, e := base.Next(x.b, x.from); p != nil || a != 0 || n != 0 || e != x.e {
			t.Errorf("%d: Next = %v, %d, %d, %v, want %v", i, p, a, n, e, x.e)
		}
	}
	if l, e := base.All(long); l != nil || e != api.ErrLong {
		t.Errorf("All: %v", e)
	}
	if f, e := base.Wrap(make([]byte, 1024)); f != nil || e != api.ErrLong {
		t.Errorf("Wrap: %v", e)
	}
	// A length whose upper bits are not 0 is none.
	b := append([]byte{0xD3, 4, 0}, make([]byte, 1024)...)
	s := sum(b)
	b = append(b, byte(s>>16), byte(s>>8), byte(s))
	if l, _ := base.All(b); len(l) != 0 {
		t.Errorf("All finds a frame of 1,024 bytes")
	}
}

// message returns a valid message.
func message(r *rand.Rand) api.Message {
	signed := func(n int) int { return []int{n, -n, 0, r.IntN(2*n+1) - n}[r.IntN(4)] }
	m := api.Message{Kind: 1 + r.IntN(3), Id: r.IntN(65536)}
	switch m.Kind {
	case api.MsgPos:
		m.Pos = [3]int{signed(most), signed(most), signed(most)}
	case api.MsgObs:
		m.Time = r.IntN(604800000)
		prns := slices.Sorted(slices.Values(r.Perm(63)[:r.IntN(17)]))
		for _, prn := range prns {
			m.Obs = append(m.Obs, api.Obs{Prn: prn + 1, Range: max(0, signed(most)), Phase: signed(turn), Lock: r.IntN(65536)})
		}
	case api.MsgText:
		for range r.IntN(201) {
			m.Text += string(rune(32 + r.IntN(95)))
		}
	}
	return m
}

// put appends so many bytes of a number.
func put(b []byte, n, many int) []byte {
	for i := many - 1; i >= 0; i-- {
		b = append(b, byte(n>>(8*i)))
	}
	return b
}

// payload returns the payload by the definition.
func payload(m api.Message) []byte {
	b := put(put(nil, m.Kind, 1), m.Id, 2)
	switch m.Kind {
	case api.MsgPos:
		b = put(put(put(b, m.Pos[0], 6), m.Pos[1], 6), m.Pos[2], 6)
	case api.MsgObs:
		b = put(put(b, m.Time, 4), len(m.Obs), 1)
		for _, o := range m.Obs {
			b = put(put(put(put(b, o.Prn, 1), o.Range, 6), o.Phase, 6), o.Lock, 2)
		}
	case api.MsgText:
		b = append(put(b, len(m.Text), 1), m.Text...)
	}
	return b
}

// P39.3, P39.4, P39.6: payloads, whole, cut, extended and changed.
func TestMessages(t *testing.T) {
	r := rand.New(rand.NewPCG(39, 4))
	for range 500 {
		m := message(r)
		b, e := base.Encode(m)
		if !bytes.Equal(b, payload(m)) || e != api.OK {
			t.Fatalf("Encode(%v) = %v, %v", m, b, e)
		}
		if got, f := base.Decode(b); !reflect.DeepEqual(got, m) || f != (api.Fault{}) {
			t.Fatalf("Decode = %v, %v, want %v", got, f, m)
		}
		cut := r.IntN(len(b))
		if got, f := base.Decode(b[:cut]); !reflect.DeepEqual(got, api.Message{}) || f != (api.Fault{Err: api.ErrShort, At: cut}) {
			t.Fatalf("Decode of %d bytes: %v", cut, f)
		}
		if got, f := base.Decode(append(b, 1, 2)); !reflect.DeepEqual(got, api.Message{}) || f != (api.Fault{Err: api.ErrLong, At: len(b)}) {
			t.Fatalf("Decode of a longer payload: %v", f)
		}
		c := slices.Clone(b)
		c[r.IntN(len(c))] = byte(r.IntN(256))
		if got, f := base.Decode(c); f == (api.Fault{}) {
			if again, e := base.Encode(got); !bytes.Equal(again, c) || e != api.OK {
				t.Fatalf("Decode of %v = %v, whose payload is %v, %v", c, got, again, e)
			}
		}
	}
}

// P39.3: messages that are none.
func TestCheck(t *testing.T) {
	obs := func(l ...api.Obs) api.Message { return api.Message{Kind: api.MsgObs, Obs: l} }
	for i, x := range []struct {
		m api.Message
		e api.Errno
	}{
		{api.Message{Id: -1}, api.ErrForm}, {api.Message{Kind: 4, Id: -1}, api.ErrForm}, {api.Message{Kind: -1}, api.ErrForm}, {api.Message{Kind: 3, Id: 65536, Time: 1}, api.ErrRange}, {api.Message{Kind: 1, Id: -1}, api.ErrRange},
		{api.Message{Kind: 1, Time: 1, Pos: [3]int{most + 1}}, api.ErrForm}, {api.Message{Kind: 1, Obs: make([]api.Obs, 1)}, api.ErrForm}, {api.Message{Kind: 1, Text: "a"}, api.ErrForm}, {api.Message{Kind: 2, Pos: [3]int{0, 0, 1}, Time: -1}, api.ErrForm}, {api.Message{Kind: 2, Text: "a"}, api.ErrForm}, {api.Message{Kind: 3, Pos: [3]int{1}}, api.ErrForm}, {api.Message{Kind: 3, Time: 1}, api.ErrForm}, {api.Message{Kind: 3, Obs: make([]api.Obs, 1)}, api.ErrForm},
		{api.Message{Kind: 1, Pos: [3]int{most + 1}}, api.ErrRange}, {api.Message{Kind: 1, Pos: [3]int{0, 0, -most - 1}}, api.ErrRange}, {api.Message{Kind: 2, Time: -1, Obs: make([]api.Obs, 17)}, api.ErrRange}, {api.Message{Kind: 2, Time: 604800000}, api.ErrRange}, {obs(make([]api.Obs, 17)...), api.ErrLong},
		{obs(api.Obs{Prn: 0}), api.ErrRange}, {obs(api.Obs{Prn: 64}), api.ErrRange}, {obs(api.Obs{Prn: 1, Range: -1}), api.ErrRange}, {obs(api.Obs{Prn: 1, Range: most + 1}), api.ErrRange}, {obs(api.Obs{Prn: 1, Phase: turn + 1}), api.ErrRange}, {obs(api.Obs{Prn: 1, Phase: -turn - 1}), api.ErrRange}, {obs(api.Obs{Prn: 1, Lock: -1}), api.ErrRange}, {obs(api.Obs{Prn: 1, Lock: 65536}), api.ErrRange},
		{obs(api.Obs{Prn: 5}, api.Obs{Prn: 5}, api.Obs{}), api.ErrOrder}, {obs(api.Obs{Prn: 5}, api.Obs{Prn: 4, Lock: -1}), api.ErrRange}, {obs(api.Obs{Prn: 5}, api.Obs{Prn: 4}), api.ErrOrder},
		{api.Message{Kind: 3, Text: strings.Repeat("\n", 201)}, api.ErrLong}, {api.Message{Kind: 3, Text: "a\n"}, api.ErrForm}, {api.Message{Kind: 3, Text: "\x7f"}, api.ErrForm}, {api.Message{Kind: 3, Text: "é"}, api.ErrForm},
	} {
		b, e := base.Encode(x.m)
		if base.Check(x.m) != x.e || e != x.e || b != nil {
			t.Errorf("%d: Check, Encode: %v, %v, want %v", i, base.Check(x.m), e, x.e)
		}
	}
}

// P39.4: the faults of payloads, from the left.
func TestDecodeFaults(t *testing.T) {
	number := func(n, many int) []byte { return put(nil, n, many) }
	head := func(kind byte, more ...[]byte) []byte {
		return append([]byte{kind, 0, 0}, slices.Concat(more...)...)
	}
	obs := func(prn byte) []byte { return append([]byte{prn}, make([]byte, 14)...) }
	zeros := make([]byte, 6)
	for i, x := range []struct {
		b []byte
		f api.Fault
	}{
		{nil, api.Fault{Err: api.ErrShort}}, {[]byte{0}, api.Fault{Err: api.ErrForm}}, {[]byte{4, 1, 1}, api.Fault{Err: api.ErrForm}}, {[]byte{255}, api.Fault{Err: api.ErrForm}}, {[]byte{3, 0}, api.Fault{Err: api.ErrShort, At: 2}},
		{[]byte{3, 0, 1, 2, 97}, api.Fault{Err: api.ErrShort, At: 5}}, {[]byte{3, 0, 1, 1, 10}, api.Fault{Err: api.ErrForm, At: 4}}, {[]byte{3, 0, 1, 5, 97, 127, 97}, api.Fault{Err: api.ErrForm, At: 5}}, {[]byte{3, 0, 1, 0, 7}, api.Fault{Err: api.ErrLong, At: 4}}, {[]byte{3, 0, 1, 201, 10}, api.Fault{Err: api.ErrLong, At: 3}},
		{head(1, number(most+1, 6)), api.Fault{Err: api.ErrRange, At: 3}}, {head(1, zeros, number(-most-1, 6), zeros[:2]), api.Fault{Err: api.ErrRange, At: 9}}, {head(1, zeros, number(-most, 6), zeros[:2]), api.Fault{Err: api.ErrShort, At: 17}}, {head(1, zeros, zeros, zeros, zeros[:1]), api.Fault{Err: api.ErrLong, At: 21}},
		{head(2, number(604800000, 4), []byte{99}), api.Fault{Err: api.ErrRange, At: 3}}, {head(2, []byte{255, 255, 255, 255}), api.Fault{Err: api.ErrRange, At: 3}}, {head(2, zeros[:4], []byte{17}), api.Fault{Err: api.ErrLong, At: 7}}, {head(2, zeros[:4], []byte{255, 0}), api.Fault{Err: api.ErrLong, At: 7}}, {head(2, zeros[:4]), api.Fault{Err: api.ErrShort, At: 7}},
		{head(2, zeros[:4], []byte{1, 0}), api.Fault{Err: api.ErrRange, At: 8}}, {head(2, zeros[:4], []byte{1, 64}), api.Fault{Err: api.ErrRange, At: 8}}, {head(2, zeros[:4], []byte{2}, obs(9), []byte{9}), api.Fault{Err: api.ErrOrder, At: 23}}, {head(2, zeros[:4], []byte{2}, obs(9), []byte{8}), api.Fault{Err: api.ErrOrder, At: 23}}, {head(2, zeros[:4], []byte{2}, obs(9)), api.Fault{Err: api.ErrShort, At: 23}},
		{head(2, zeros[:4], []byte{1, 1}, number(most+1, 6)), api.Fault{Err: api.ErrRange, At: 9}}, {head(2, zeros[:4], []byte{1, 1}, number(-1, 6)), api.Fault{Err: api.ErrRange, At: 9}}, {head(2, zeros[:4], []byte{1, 1}, zeros, number(turn+1, 6)), api.Fault{Err: api.ErrRange, At: 15}}, {head(2, zeros[:4], []byte{1, 1}, zeros, number(-turn-1, 6)), api.Fault{Err: api.ErrRange, At: 15}}, {head(2, zeros[:4], []byte{1, 1}, zeros, number(-turn, 6)), api.Fault{Err: api.ErrShort, At: 21}},
	} {
		if m, f := base.Decode(x.b); !reflect.DeepEqual(m, api.Message{}) || f != x.f {
			t.Errorf("%d: Decode(%v): %v, want %v", i, x.b, f, x.f)
		}
	}
	if m, f := base.Decode(head(2, zeros[:4], []byte{1}, obs(9))); m.Obs[0].Prn != 9 || f != (api.Fault{}) {
		t.Errorf("Decode = %v, %v", m, f)
	}
}
