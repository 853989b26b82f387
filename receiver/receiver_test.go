package receiver_test

import (
	"reflect"
	"slices"
	"sync"
	"testing"

	"skyfix/acquire"
	"skyfix/api"
	"skyfix/bitsync"
	"skyfix/distance"
	"skyfix/ephem"
	"skyfix/exclude"
	"skyfix/frame"
	"skyfix/level"
	"skyfix/orbit"
	"skyfix/quant"
	"skyfix/receiver"
	"skyfix/signal"
	"skyfix/spans"
	"skyfix/track"
)

// world is a receiver at a place, and what it receives from four satellites; the first sample is received in the millisecond begin.
type world struct {
	plan       api.Plan
	gain       api.Gain
	at         api.Point
	begin      int
	satellites []api.Ephemeris
	delays     map[int]int // where the periods of each code begin
	raw        []api.Sample
}

// made is the world of the tests, which takes long to make.
var made = sync.OnceValue(makeWorld)

func makeWorld() world {
	w := world{
		plan:  api.Plan{Degree: 9, Over: 2, PerBit: 1, Words: 10, MinAmp: 100, MaxAmp: 100, Noise: 50, Prns: []int{20, 3, 41, 12}},
		at:    api.Point{X: 6371000000, Y: 1000000, Z: -2000000},
		begin: 300*2000 - 20,
	}
	w.delays = map[int]int{}
	t0 := w.begin / 1000
	for i, p := range []api.Point{{X: 25600000000}, {X: 16000000000, Y: 17000000000}, {X: 14000000000, Y: -9000000000, Z: 15000000000}, {X: 15000000000, Y: -8000000000, Z: -16000000000}} {
		e := api.Ephemeris{Prn: w.plan.Prns[i], Issue: 5 + i, T0: t0, Acc: 100 * i, Clock: [3]int{1024 * (i - 2), 0, 0}, X: [4]int{p.X / 16}, Y: [4]int{p.Y / 16}, Z: [4]int{p.Z / 16}}
		w.satellites = append(w.satellites, e)
	}
	l := 511 * w.plan.Over
	many := api.MaxSamples
	var emitters []api.Emitter
	for i, e := range w.satellites {
		at, _ := orbit.Position(e, w.begin*1000000)
		d, _ := distance.Range(w.at, at)
		offset, _ := orbit.Clock(e, w.begin*1000000)
		// A satellite whose clock is ahead sends early, so that its signals come as from a lesser distance.
		d -= offset
		whole, rest := d/api.Light, d%api.Light
		x := api.Emitter{Prn: e.Prn, Delay: rest * l / api.Light, Amp: 100, Phase: uint32(i) << 29}
		for k := range many/l + 1 {
			x.Bits = append(x.Bits, bit(e, w.begin-whole+k))
		}
		emitters = append(emitters, x)
		w.delays[e.Prn] = x.Delay
	}
	noise := make([]api.Sample, many)
	for i := range noise {
		noise[i] = api.Sample{I: (i*i*7+i*13)%101 - 50, Q: (i*i*5+i*11)%101 - 50}
	}
	w.raw, _ = signal.Make(w.plan, emitters, noise, many)
	w.gain, _ = quant.Least(w.raw, 8)
	return w
}

// bit returns the bit of a satellite's message that is sent in a millisecond.
func bit(e api.Ephemeris, ms int) int {
	tow := ms / 300
	l, _ := ephem.Frames(e, tow-tow%3)
	bits, _ := frame.Make(l[tow%3], 10)
	return bits[ms%300]
}

// fed returns a receiver that has all samples, and has searched and advanced.
func fed(t *testing.T, w world) *receiver.Receiver {
	t.Helper()
	r, e := receiver.New(w.plan, w.gain)
	if e != api.OK {
		t.Fatal(e)
	}
	if lost, e := r.Feed(w.raw); lost != 0 || e != api.OK {
		t.Fatalf("Feed = %d, %v", lost, e)
	}
	hits, e := r.Search(3)
	want, e2 := acquire.All(quantised(w), w.plan, w.gain, 0, 3)
	if !slices.Equal(hits, want) || e != api.OK || e2 != api.OK || len(hits) != 4 {
		t.Fatalf("Search = %v, %v, want %v", hits, e, want)
	}
	if n, e := r.Advance(); n < 4000 || e != api.OK {
		t.Fatalf("Advance = %d, %v", n, e)
	}
	return r
}

func quantised(w world) []api.Sample {
	q, _ := quant.Quantise(w.raw, w.gain)
	return q.S
}

// begun returns the channel that begins at a hit.
func begun(p api.Plan, h api.Hit) api.Track {
	code := api.Loop{Order: 1, Shift: [3]int{2, 20, 20}, Limit: 512}
	carrier := api.Loop{Order: 2, Shift: [3]int{1, 3, 20}, Limit: 1048576}
	t, _ := track.New(p, h.Prn, h.At, 1, code, carrier, 0, 0, 2, 4)
	return t
}

// P42.3, P42.4, P42.7: channels, their epochs, streams and frames, by the definitions.
func TestChannels(t *testing.T) {
	w := made()
	r := fed(t, w)
	hits, _ := acquire.All(quantised(w), w.plan, w.gain, 0, 3)
	slices.SortFunc(hits, func(a, b api.Hit) int { return a.Prn - b.Prn })
	channels := r.Channels()
	if len(channels) != 4 {
		t.Fatalf("there are %d channels", len(channels))
	}
	for i, h := range hits {
		last, want, _ := track.Run(quantised(w), w.plan, w.gain, begun(w.plan, h), 10000)
		l, e := r.Epochs(h.Prn)
		if !slices.Equal(l, want) || channels[i] != last || e != api.OK {
			t.Fatalf("code %d: %d epochs, %v, want %d", h.Prn, len(l), e, len(want))
		}
		var sums []api.Sample
		for _, b := range track.Bits(want) {
			sums = append(sums, api.Sample{I: 1 - 2*b})
		}
		s, _ := bitsync.New(w.plan.PerBit)
		s, _ = bitsync.Feed(s, sums)
		residue, _ := bitsync.Edge(s, 1)
		bits, _ := bitsync.Read(sums, w.plan.PerBit, residue)
		stream, at, e := r.Stream(h.Prn)
		if !slices.Equal(stream, bits) || at != residue || e != api.OK {
			t.Fatalf("code %d: Stream: %d, %d, %v", h.Prn, len(stream), at, e)
		}
		frames, e := r.Frames(h.Prn)
		found, _ := frame.All(bits, w.plan.Words)
		if !reflect.DeepEqual(frames, found) || e != api.OK || len(frames) != 3 {
			t.Fatalf("code %d: Frames: %d, %v", h.Prn, len(frames), e)
		}
		for _, x := range l {
			off := (x.At - w.delays[h.Prn] + 1022*2000) % 1022
			if x.Claimed && min(off, 1022-off) >= w.plan.Over {
				t.Fatalf("code %d: %v is claimed, but %d samples off", h.Prn, x, off)
			}
		}
		checkChannel(t, w, r, h.Prn, l, residue, frames)
	}
}

// checkChannel checks the ephemeris and the time of a channel.
func checkChannel(t *testing.T, w world, r *receiver.Receiver, prn int, l []api.Epoch, residue int, frames []api.Found) {
	t.Helper()
	i := slices.IndexFunc(w.satellites, func(e api.Ephemeris) bool { return e.Prn == prn })
	if x, e := r.Ephemeris(prn); x != w.satellites[i] || e != api.OK {
		t.Fatalf("code %d: Ephemeris = %v, %v", prn, x, e)
	}
	last := frames[len(frames)-1]
	want := api.Channel{Prn: prn, At: l[residue+w.plan.PerBit*last.At].At, Ms: 300 * w.plan.PerBit * last.Frame.Tow}
	if x, e := r.Time(prn); x != want || e != api.OK {
		t.Fatalf("code %d: Time = %v, %v, want %v", prn, x, e, want)
	}
}

// P42.5: sights and the answer.
func TestAnswer(t *testing.T) {
	w := made()
	r := fed(t, w)
	l, e := r.Sights(w.begin)
	if len(l) != 4 || e != api.OK {
		t.Fatalf("Sights = %v, %v", l, e)
	}
	length := 511 * w.plan.Over
	bound, _ := spans.Bound(length, w.plan.Over)
	for i, s := range l {
		x, _ := r.Time(s.Prn)
		k := slices.IndexFunc(w.satellites, func(e api.Ephemeris) bool { return e.Prn == s.Prn })
		sat, _ := orbit.Position(w.satellites[k], x.Ms*1000000)
		offset, _ := orbit.Clock(w.satellites[k], x.Ms*1000000)
		n, _ := spans.Length(length, w.begin, x)
		if want := (api.Sight{Prn: s.Prn, Sat: sat, Range: n + offset, Error: bound + w.satellites[k].Acc + 2}); s != want || i > 0 && l[i-1].Prn >= s.Prn {
			t.Fatalf("Sights = %v, want %v", s, want)
		}
		d, _ := distance.Range(w.at, sat)
		if off := s.Range - d; max(off, -off) > s.Error {
			t.Fatalf("the pseudorange of %d is off by %d", s.Prn, off)
		}
	}
	prior := api.Point{X: w.at.X + 10000000, Y: w.at.Y, Z: w.at.Z + 10000000}
	a, e := r.Answer(w.begin, prior, 20000000)
	want, e2 := exclude.Answer(l, prior, 20000000, 0)
	if a != want || e != e2 || e != api.OK || a.Kind != api.AnswerPlain {
		t.Fatalf("Answer = %v, %v, want %v, %v", a, e, want, e2)
	}
	if !level.Covers(a.Level, a.At, a.Bias, w.at, 0) {
		t.Errorf("%v does not cover %v", a, w.at)
	}
	// With a clock far off, there are no sights.
	if l, e := r.Sights(1 << 40); len(l) != 0 || e != api.OK {
		t.Errorf("Sights = %v, %v", l, e)
	}
	if a, e := r.Answer(1<<40, prior, 1); a != (api.Answer{}) || e != api.ErrShort {
		t.Errorf("Answer = %v, %v", a, e)
	}
}

// P42.6: the samples cut into pieces.
func TestPieces(t *testing.T) {
	w := made()
	whole := fed(t, w)
	r, _ := receiver.New(w.plan, w.gain)
	first := 5000
	r.Feed(w.raw[:first])
	if hits, e := r.Search(3); len(hits) != 4 || e != api.OK {
		t.Fatalf("Search = %v, %v", hits, e)
	}
	epochs := 0
	for from, size := first, 1; from < len(w.raw); from, size = from+size, size*3 {
		part := w.raw[from:min(from+size, len(w.raw))]
		if lost, e := r.Feed(part); lost != 0 || e != api.OK {
			t.Fatal(e)
		}
		n, e := r.Advance()
		if e != api.OK {
			t.Fatal(e)
		}
		epochs += n
	}
	if !slices.Equal(r.Channels(), whole.Channels()) {
		t.Fatal("the channels are others")
	}
	for _, prn := range w.plan.Prns {
		a, _ := r.Epochs(prn)
		b, _ := whole.Epochs(prn)
		if !slices.Equal(a, b) {
			t.Fatalf("code %d has %d epochs, not %d", prn, len(a), len(b))
		}
		epochs -= len(a)
	}
	if epochs != 0 {
		t.Errorf("Advance counts %d epochs too many", epochs)
	}
	// Another search begins no channel where there is one.
	if hits, e := r.Search(3); len(hits) != 4 || e != api.OK || !slices.Equal(r.Channels(), whole.Channels()) {
		t.Errorf("Search = %v, %v", hits, e)
	}
}

// P42.4: assisted channels.
func TestAssist(t *testing.T) {
	w := made()
	r, _ := receiver.New(w.plan, w.gain)
	r.Feed(w.raw[:900*1022])
	if _, e := r.Search(3); e != api.OK {
		t.Fatal(e)
	}
	prn := w.plan.Prns[1]
	if x, e := r.Ephemeris(prn); x != (api.Ephemeris{}) || e != api.ErrNone {
		t.Fatalf("Ephemeris = %v, %v", x, e)
	}
	given := w.satellites[1]
	given.Issue = 99
	if e := r.Assist(given); e != api.OK {
		t.Fatal(e)
	}
	if x, e := r.Ephemeris(prn); x != given || e != api.OK {
		t.Fatalf("Ephemeris = %v, %v", x, e)
	}
	// Two frames are received, which is too few for an ephemeris of its own.
	r.Advance()
	if x, e := r.Ephemeris(prn); x != given || e != api.OK {
		t.Fatalf("Ephemeris = %v, %v", x, e)
	}
	if l, e := r.Sights(w.begin); len(l) != 1 || l[0].Prn != prn || e != api.OK {
		t.Fatalf("Sights = %v, %v", l, e)
	}
	// An ephemeris that does not hold is of no use.
	given.T0 += 9000
	r.Assist(given)
	if l, _ := r.Sights(w.begin); len(l) != 0 {
		t.Errorf("Sights = %v", l)
	}
	r.Feed(w.raw[900*1022:])
	r.Advance()
	if x, e := r.Ephemeris(prn); x != w.satellites[1] || e != api.OK {
		t.Errorf("Ephemeris = %v, %v", x, e)
	}
	if e := r.Assist(api.Ephemeris{Prn: 64}); e != api.ErrRange {
		t.Errorf("Assist: %v", e)
	}
	if e := r.Assist(api.Ephemeris{Prn: 1}); e != api.ErrNone {
		t.Errorf("Assist: %v", e)
	}
}

// P42.1, P42.8: copies.
func TestCopy(t *testing.T) {
	w := made()
	r, _ := receiver.New(w.plan, w.gain)
	r.Feed(w.raw[:20*1022])
	r.Search(3)
	r.Advance()
	c := r.Copy()
	before, _ := r.Epochs(3)
	c.Feed(w.raw[20*1022 : 40*1022])
	c.Advance()
	after, _ := r.Epochs(3)
	more, _ := c.Epochs(3)
	if !slices.Equal(before, after) || len(more) <= len(before) || !slices.Equal(more[:len(before)], before) {
		t.Errorf("%d epochs became %d, the copy has %d", len(before), len(after), len(more))
	}
	r.Feed(w.raw[20*1022 : 40*1022])
	r.Advance()
	if again, _ := r.Epochs(3); !slices.Equal(again, more) || !slices.Equal(r.Channels(), c.Channels()) {
		t.Error("the copy behaves otherwise")
	}
	l, _ := r.Epochs(3)
	l[0].Bit = 7
	if again, _ := r.Epochs(3); again[0].Bit == 7 {
		t.Error("results share memory with the receiver")
	}
	p := w.plan
	p.Prns = slices.Clone(p.Prns)
	other, _ := receiver.New(p, w.gain)
	p.Prns[0] = 99
	other.Feed(w.raw[:10*1022])
	if hits, e := other.Search(3); len(hits) != 4 || e != api.OK {
		t.Errorf("the receiver keeps its argument: %v, %v", hits, e)
	}
}

// plan and gain are those of layer 15's examples.
func plan() api.Plan {
	return api.Plan{Degree: 5, Over: 2, PerBit: 2, Words: 2, MinAmp: 10, MaxAmp: 10, Prns: []int{1}}
}

func gain() api.Gain { return api.Gain{Bits: 8, Shift: 5} }

// P42.2, P42.3, P42.4: the examples of the chapter, and the errors.
func TestErrors(t *testing.T) {
	r, e := receiver.New(plan(), gain())
	if e != api.OK {
		t.Fatal(e)
	}
	if _, e := r.Search(2); e != api.ErrShort {
		t.Errorf("Search without samples: %v", e)
	}
	if lost, e := r.Feed(make([]api.Sample, 248)); lost != 0 || e != api.OK {
		t.Errorf("Feed = %d, %v", lost, e)
	}
	if hits, e := r.Search(2); len(hits) != 0 || e != api.OK {
		t.Errorf("Search = %v, %v", hits, e)
	}
	if n, e := r.Advance(); n != 0 || e != api.OK || len(r.Channels()) != 0 {
		t.Errorf("Advance = %d, %v", n, e)
	}
	_, e1 := r.Epochs(1)
	_, _, e2 := r.Stream(1)
	_, e3 := r.Frames(1)
	_, e4 := r.Ephemeris(1)
	_, e5 := r.Time(1)
	for i, e := range []api.Errno{e1, e2, e3, e4, e5} {
		if e != api.ErrNone {
			t.Errorf("%d: %v, want ErrNone", i, e)
		}
	}
	if l, e := r.Sights(0); len(l) != 0 || e != api.OK {
		t.Errorf("Sights = %v, %v", l, e)
	}
	if a, e := r.Answer(0, api.Point{}, 0); a != (api.Answer{}) || e != api.ErrShort {
		t.Errorf("Answer = %v, %v", a, e)
	}
	for _, many := range []int{0, 17, -1} {
		if hits, e := r.Search(many); hits != nil || e != api.ErrRange {
			t.Errorf("Search(%d) = %v, %v", many, hits, e)
		}
	}
	if lost, e := r.Feed([]api.Sample{{I: 1<<46 + 1}}); lost != 0 || e != api.ErrRange {
		t.Errorf("Feed = %d, %v", lost, e)
	}
	if lost, e := r.Feed(make([]api.Sample, 1<<20+1)); lost != 0 || e != api.ErrLong {
		t.Errorf("Feed = %d, %v", lost, e)
	}
	if lost, e := r.Feed(append(make([]api.Sample, 1<<20-248), api.Sample{I: 5000})); lost != 0 || e != api.ErrFull {
		t.Errorf("Feed = %d, %v", lost, e)
	}
	if _, e := r.Advance(); e != api.OK {
		t.Errorf("a refused piece counts: %v", e)
	}
	if lost, e := r.Feed([]api.Sample{{I: 5000}, {}, {Q: -5000}}); lost != 2 || e != api.OK {
		t.Errorf("Feed = %d, %v", lost, e)
	}
	_, e1 = r.Search(17)
	_, e2 = r.Advance()
	_, e3 = r.Copy().Advance()
	if e1 != api.ErrState || e2 != api.ErrState || e3 != api.ErrState {
		t.Errorf("with lost samples: %v, %v, %v", e1, e2, e3)
	}
	if lost, e := r.Feed(make([]api.Sample, 1<<20-251)); lost != 0 || e != api.OK {
		t.Errorf("Feed of as many as possible = %d, %v", lost, e)
	}
}

// P42.1: plans and gains that are none; DOC.md, R2: receivers that are not valid.
func TestInvalid(t *testing.T) {
	if r, e := receiver.New(api.Plan{}, api.Gain{}); r != nil || e != api.ErrRange {
		t.Errorf("New = %v, %v", r, e)
	}
	bad := plan()
	bad.Prns = nil
	if r, e := receiver.New(bad, api.Gain{}); r != nil || e != api.ErrForm {
		t.Errorf("New = %v, %v", r, e)
	}
	if r, e := receiver.New(plan(), api.Gain{}); r != nil || e != api.ErrRange {
		t.Errorf("New = %v, %v", r, e)
	}
	var none *receiver.Receiver
	for _, r := range []*receiver.Receiver{none, {}, none.Copy(), (&receiver.Receiver{}).Copy()} {
		lost, e1 := r.Feed(nil)
		hits, e2 := r.Search(99)
		n, e3 := r.Advance()
		l, e4 := r.Epochs(1)
		bits, at, e5 := r.Stream(1)
		f, e6 := r.Frames(1)
		e7 := r.Assist(api.Ephemeris{})
		x, e8 := r.Ephemeris(1)
		c, e9 := r.Time(1)
		s, e10 := r.Sights(0)
		a, e11 := r.Answer(0, api.Point{}, -1)
		for i, e := range []api.Errno{e1, e2, e3, e4, e5, e6, e7, e8, e9, e10, e11} {
			if e != api.ErrNil {
				t.Errorf("method %d: %v", i+1, e)
			}
		}
		if lost|n|at != 0 || hits != nil || l != nil || bits != nil || f != nil || s != nil || x != (api.Ephemeris{}) || c != (api.Channel{}) || a != (api.Answer{}) || r.Channels() != nil {
			t.Error("there is a result beside an error")
		}
	}
}
