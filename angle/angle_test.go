package angle_test

import (
	"math"
	"math/big"
	"math/rand/v2"
	"testing"

	"skyfix/angle"
	"skyfix/api"
)

const (
	top    = 1<<63 - 1
	bottom = -1 << 63
)

// small returns complex integers of all sizes, among them those on the boundaries of sectors.
func small() []api.Sample {
	l := []api.Sample{{I: 1}, {Q: 1}, {I: -1}, {Q: -1}, {I: api.MaxPart}, {I: -api.MaxPart, Q: api.MaxPart}, {I: api.MaxPart, Q: -api.MaxPart}}
	t := angle.Table()
	for k := range t {
		a, b := t[k], t[(k+1)%64]
		l = append(l, a, api.Sample{I: a.I + b.I, Q: a.Q + b.Q})
	}
	r := rand.New(rand.NewPCG(2, 1))
	for range 400 {
		part := func() int { return int(r.Int64N(2*api.MaxPart+1)-api.MaxPart) >> r.IntN(46) }
		if s := (api.Sample{I: part(), Q: part()}); s != (api.Sample{}) {
			l = append(l, s)
		}
	}
	return l
}

// great returns complex integers that are not small.
func great() []api.Sample {
	const m = api.MaxPart + 1
	return []api.Sample{{I: m}, {I: -m}, {Q: m}, {Q: -m}, {I: top}, {Q: bottom}, {I: 1, Q: m}}
}

func turn(s api.Sample) api.Sample { return api.Sample{I: -s.Q, Q: s.I} }

func cross(a, b api.Sample) int { return a.I*b.Q - a.Q*b.I }

// P2.1: the table, and the entry of a phase.
func TestTable(t *testing.T) {
	l := angle.Table()
	if len(l) != 64 {
		t.Fatalf("Table has %d entries", len(l))
	}
	for k, want := range map[int]api.Sample{0: {I: 127}, 1: {I: 126, Q: 12}, 8: {I: 90, Q: 90}, 16: {Q: 127}, 40: {I: -90, Q: -90}, 63: {I: 126, Q: -12}} {
		if l[k] != want {
			t.Errorf("T[%d] = %v", k, l[k])
		}
	}
	for k, x := range l {
		if l[(k+16)%64] != turn(x) {
			t.Errorf("T[%d] is not turned by a quarter", k+16)
		}
		if p := x.I*x.I + x.Q*x.Q; p < 16020 || p > 16277 {
			t.Errorf("T[%d] has the power %d", k, p)
		}
		if at := math.Round(math.Atan2(float64(x.Q), float64(x.I)) / (2 * math.Pi) * 64); int(at+64)%64 != k {
			t.Errorf("T[%d] has another angle", k)
		}
		for _, p := range []uint32{uint32(k) << 26, uint32(k)<<26 + 1<<26 - 1} {
			if angle.Carrier(p) != x {
				t.Errorf("Carrier(%d) = %v", p, angle.Carrier(p))
			}
		}
	}
	l[0].I = 5
	if angle.Table()[0].I != 127 {
		t.Error("results share memory")
	}
}

// P2.1, P2.4: phases wrap around.
func TestPhases(t *testing.T) {
	r := rand.New(rand.NewPCG(2, 2))
	for range 1000 {
		p, step, m, n := r.Uint32(), r.Uint32(), int(r.Uint64()), int(r.Uint64())
		exact := new(big.Int).Mul(big.NewInt(int64(step)), big.NewInt(int64(n)))
		exact.Add(exact, big.NewInt(int64(p))).Mod(exact, big.NewInt(1<<32))
		a := angle.Advance(p, step, n)
		if uint64(a) != exact.Uint64() {
			t.Fatalf("Advance(%d, %d, %d) = %d", p, step, n, a)
		}
		if angle.Advance(angle.Advance(p, step, m), step, n) != angle.Advance(p, step, m+n) {
			t.Fatalf("Advance by %d and then %d is not that by both", m, n)
		}
		d := angle.Delta(a, p)
		if d < -1<<31 || d >= 1<<31 || angle.Advance(p, 1, d) != a {
			t.Fatalf("Delta(%d, %d) = %d", a, p, d)
		}
	}
	if angle.Advance(1<<32-1, 2, 1) != 1 || angle.Advance(5, 3, -2) != 1<<32-1 {
		t.Error("Advance is wrong at the end")
	}
	if angle.Delta(0, 1) != -1 || angle.Delta(1<<31, 0) != -1<<31 || angle.Delta(1, 1<<32-1) != 2 {
		t.Error("Delta is wrong at the end")
	}
}

// P2.2: Wipe.
func TestWipe(t *testing.T) {
	for _, s := range small() {
		for k, c := range angle.Table() {
			w, e := angle.Wipe(s, uint32(k)<<26+5)
			if want := (api.Sample{I: s.I*c.I + s.Q*c.Q, Q: s.Q*c.I - s.I*c.Q}); w != want || e != api.OK {
				t.Fatalf("Wipe(%v, entry %d) = %v, %v", s, k, w, e)
			}
		}
	}
}

// P2.2: the sector is the one that the definition names, and only that one.
func TestSector(t *testing.T) {
	table := angle.Table()
	boundary := func(k int) api.Sample {
		a, b := table[(k+64)%64], table[(k+65)%64]
		return api.Sample{I: a.I + b.I, Q: a.Q + b.Q}
	}
	for _, s := range small() {
		got, e := angle.Sector(s)
		fine, e2 := angle.Fine(s)
		if e != api.OK || e2 != api.OK {
			t.Fatalf("Sector(%v), Fine: %v, %v", s, e, e2)
		}
		for k := range 64 {
			a, b := cross(boundary(k-1), s), cross(s, boundary(k))
			if (a >= 0 && b > 0) != (k == got) {
				t.Fatalf("Sector(%v) = %d", s, got)
			}
			if k == got && fine != (64*k-32+64*a/(a+b)+4096)%4096 {
				t.Fatalf("Fine(%v) = %d", s, fine)
			}
		}
	}
	for s, want := range map[api.Sample][2]int{{}: {0, 0}, {I: 126, Q: 12}: {1, 62}, {I: -5}: {32, 2048}, {Q: -1}: {48, 3072}, {I: -1, Q: -1}: {40, 2560}, {I: 100, Q: 10}: {1, 65}} {
		k, e := angle.Sector(s)
		f, e2 := angle.Fine(s)
		if k != want[0] || f != want[1] || e != api.OK || e2 != api.OK {
			t.Errorf("Sector, Fine(%v) = %d, %d", s, k, f)
		}
	}
}

// P2.5: multiples of entries, and turns by a quarter.
func TestTurns(t *testing.T) {
	for k, x := range angle.Table() {
		for _, n := range []int{1, 2, 3, 1000, 1 << 39} {
			s := api.Sample{I: n * x.I, Q: n * x.Q}
			got, _ := angle.Sector(s)
			f, _ := angle.Fine(s)
			if d := (f - 64*k + 4096 + 2) % 4096; got != k || d > 4 {
				t.Errorf("%d times T[%d] has the sector %d and the fine angle %d", n, k, got, f)
			}
		}
	}
	for _, s := range small() {
		k, _ := angle.Sector(s)
		f, _ := angle.Fine(s)
		k2, _ := angle.Sector(turn(s))
		f2, _ := angle.Fine(turn(s))
		if k2 != (k+16)%64 || f2 != (f+1024)%4096 {
			t.Fatalf("turning %v by a quarter leads from %d, %d to %d, %d", s, k, f, k2, f2)
		}
	}
}

// P2.6: fine angles keep the order.
func TestFineOrder(t *testing.T) {
	l := small()
	for _, a := range l {
		for _, b := range l {
			ab := new(big.Int).Mul(big.NewInt(int64(a.I)), big.NewInt(int64(b.Q)))
			ab.Sub(ab, new(big.Int).Mul(big.NewInt(int64(a.Q)), big.NewInt(int64(b.I))))
			if ab.Sign() <= 0 {
				continue
			}
			f, _ := angle.Fine(a)
			g, _ := angle.Fine(b)
			if d := (g - f + 4096) % 4096; d > 2048 {
				t.Fatalf("from %v to %v the fine angle grows by %d", a, b, d)
			}
		}
	}
}

// P2.2: Power.
func TestPower(t *testing.T) {
	for _, s := range small() {
		want := new(big.Int)
		for _, x := range []int{s.I, s.Q} {
			want.Add(want, new(big.Int).Mul(big.NewInt(int64(x)), big.NewInt(int64(x))))
		}
		p, e := angle.Power(s)
		if want.IsInt64() != (e == api.OK) || want.IsInt64() && int64(p) != want.Int64() || !want.IsInt64() && (p != 0 || e != api.ErrOver) {
			t.Fatalf("Power(%v) = %d, %v", s, p, e)
		}
	}
}

// P2.2: numbers that are not small.
func TestGreat(t *testing.T) {
	for _, s := range great() {
		w, e := angle.Wipe(s, 0)
		k, e2 := angle.Sector(s)
		f, e3 := angle.Fine(s)
		p, e4 := angle.Power(s)
		if w != (api.Sample{}) || k != 0 || f != 0 || p != 0 {
			t.Errorf("%v: results %v, %d, %d, %d", s, w, k, f, p)
		}
		if e != api.ErrRange || e2 != api.ErrRange || e3 != api.ErrRange || e4 != api.ErrRange {
			t.Errorf("%v: errors %v, %v, %v, %v", s, e, e2, e3, e4)
		}
	}
}

func wide(n *big.Int) api.Wide {
	lo := new(big.Int).And(n, new(big.Int).SetUint64(1<<64-1))
	return api.Wide{Hi: int(new(big.Int).Rsh(n, 64).Int64()), Lo: lo.Uint64()}
}

// P2.3, P2.7: roots.
func TestRoots(t *testing.T) {
	r := rand.New(rand.NewPCG(2, 3))
	l := []*big.Int{}
	one := big.NewInt(1)
	for n := range 200 {
		l = append(l, big.NewInt(int64(n)))
	}
	for range 500 {
		n := new(big.Int).SetUint64(r.Uint64())
		n.Lsh(n, 63).Add(n, new(big.Int).SetUint64(r.Uint64())).Rsh(n, uint(r.IntN(126)))
		s := new(big.Int).Sqrt(n)
		s.Mul(s, s)
		l = append(l, n, s, new(big.Int).Sub(s, one))
	}
	for _, bits := range []uint{63, 126, 127} {
		n := new(big.Int).Lsh(one, bits)
		l = append(l, new(big.Int).Sub(n, one))
		if bits != 127 {
			l = append(l, n)
		}
	}
	for _, n := range l {
		if n.Sign() < 0 {
			continue
		}
		want := new(big.Int).Sqrt(n)
		got, e := angle.RootWide(wide(n))
		if want.IsInt64() && (e != api.OK || int64(got) != want.Int64()) || !want.IsInt64() && (e != api.ErrOver || got != 0) {
			t.Errorf("RootWide(%v) = %d, %v", n, got, e)
		}
		if n.IsInt64() {
			if got, e := angle.Root(int(n.Int64())); e != api.OK || int64(got) != want.Int64() {
				t.Errorf("Root(%v) = %d, %v", n, got, e)
			}
		}
	}
	for _, n := range []int{-1, bottom} {
		if r, e := angle.Root(n); r != 0 || e != api.ErrRange {
			t.Errorf("Root(%d) = %d, %v", n, r, e)
		}
		if r, e := angle.RootWide(api.Wide{Hi: n, Lo: 5}); r != 0 || e != api.ErrRange {
			t.Errorf("RootWide(%d, 5) = %d, %v", n, r, e)
		}
	}
}
