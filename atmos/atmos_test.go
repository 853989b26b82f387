package atmos_test

import (
	"math/big"
	"math/rand/v2"
	"reflect"
	"slices"
	"testing"

	"skyfix/api"
	"skyfix/atmos"
)

const (
	unit = 1 << 30
	most = 10000000000000
)

// example is the model of the chapter's examples.
func example() api.Atmos {
	return api.Atmos{Iono: [4]int{2000, 3000, 0, 1000}, Tropo: [3]int{2300, 5000, 8000}, IonoBy: 500, TropoBy: 100}
}

// coefficient returns a coefficient, now and then an extreme one.
func coefficient(r *rand.Rand) int {
	if r.IntN(4) == 0 {
		return 1000000 * (2*r.IntN(2) - 1)
	}
	return (r.IntN(2000001) - 1000000) >> r.IntN(20)
}

func random(r *rand.Rand) api.Atmos {
	m := api.Atmos{IonoBy: r.IntN(1000001), TropoBy: r.IntN(1000001)}
	for i := range m.Iono {
		m.Iono[i] = coefficient(r)
	}
	for i := range m.Tropo {
		m.Tropo[i] = coefficient(r)
	}
	return m
}

// value returns the value of a polynomial at a height, rounded, by the definition.
func value(c []int, up int) int {
	z := big.NewRat(int64(unit-up), unit)
	sum, power := new(big.Rat), big.NewRat(1, 1)
	for _, x := range c {
		sum.Add(sum, new(big.Rat).Mul(big.NewRat(int64(x), 1), power))
		power = new(big.Rat).Mul(power, z)
	}
	q := new(big.Int).Abs(sum.Num())
	q.Lsh(q, 1).Add(q, sum.Denom()).Quo(q, new(big.Int).Lsh(sum.Denom(), 1))
	return int(q.Int64()) * sum.Sign()
}

func abs(x int) int { return max(x, -x) }

// P31.1, P31.5, P31.6: delays and slopes.
func TestDelay(t *testing.T) {
	r := rand.New(rand.NewPCG(31, 1))
	for range 1000 {
		m, up, other := random(r), r.IntN(unit+1)>>r.IntN(30), r.IntN(unit+1)
		iono, tropo, e := atmos.Delay(m, up)
		if iono != value(m.Iono[:], up) || tropo != value(m.Tropo[:], up) || e != api.OK {
			t.Fatalf("Delay(%v, %d) = %d, %d, %v", m, up, iono, tropo, e)
		}
		slope, e := atmos.Slope(m)
		want := abs(m.Iono[1]) + 2*abs(m.Iono[2]) + 3*abs(m.Iono[3]) + abs(m.Tropo[1]) + 2*abs(m.Tropo[2])
		if slope != want || e != api.OK {
			t.Fatalf("Slope(%v) = %d, %v", m, slope, e)
		}
		i, k, _ := atmos.Delay(m, other)
		if d := abs(i + k - iono - tropo); (d-2)*unit > slope*abs(up-other) {
			t.Fatalf("%v: the delays change by %d from %d to %d", m, d, up, other)
		}
		i, k, _ = atmos.Delay(m, unit)
		a, b, _ := atmos.Delay(m, 0)
		if i != m.Iono[0] || k != m.Tropo[0] || a != m.Iono[0]+m.Iono[1]+m.Iono[2]+m.Iono[3] || b != m.Tropo[0]+m.Tropo[1]+m.Tropo[2] {
			t.Fatalf("%v: %d, %d at the zenith, %d, %d at the horizon", m, i, k, a, b)
		}
	}
	for _, x := range [][3]int{{2 * unit / 2, 2000, 2300}, {unit / 2, 3625, 6800}, {0, 6000, 15300}} {
		if iono, tropo, e := atmos.Delay(example(), x[0]); iono != x[1] || tropo != x[2] || e != api.OK {
			t.Errorf("Delay(%d) = %d, %d, %v", x[0], iono, tropo, e)
		}
	}
	for _, c := range []int{1, -1} {
		if iono, _, _ := atmos.Delay(api.Atmos{Iono: [4]int{0, c}}, unit/2); iono != c {
			t.Errorf("Delay = %d, want %d", iono, c)
		}
	}
	for _, up := range []int{-1, unit + 1, -1 << 63, 1<<63 - 1} {
		if iono, tropo, e := atmos.Delay(example(), up); iono != 0 || tropo != 0 || e != api.ErrRange {
			t.Errorf("Delay(%d) = %d, %d, %v", up, iono, tropo, e)
		}
	}
}

// P31.2, P31.4: corrected lengths.
func TestCorrect(t *testing.T) {
	r := rand.New(rand.NewPCG(31, 2))
	for range 1000 {
		m := random(r)
		length, by, up, upBy := r.IntN(2*most+1)-most, r.IntN(1000000), r.IntN(unit+1), r.IntN(unit+1)>>r.IntN(30)
		fixed, bound, e := atmos.Correct(m, length, by, up, upBy)
		slope, _ := atmos.Slope(m)
		turned := slope * upBy / unit
		if turned*unit < slope*upBy {
			turned++
		}
		iono, tropo, _ := atmos.Delay(m, up)
		if fixed != length-iono-tropo || bound != by+m.IonoBy+m.TropoBy+turned+2 || e != api.OK {
			t.Fatalf("Correct = %d, %d, %v", fixed, bound, e)
		}
		// The true height and delays are as far off as they can be.
		height := min(up+upBy, unit)
		iono, tropo, _ = atmos.Delay(m, height)
		truth := length - by - iono - m.IonoBy - tropo - m.TropoBy
		if d := abs(fixed - truth); d > bound {
			t.Fatalf("%v: the length is off by %d, more than %d", m, d, bound)
		}
	}
	h := unit / 2
	for i, x := range []struct {
		length, by, up, upBy, fixed, bound int
		e                                  api.Errno
	}{
		{1000000, 10, h, 0, 989575, 612, api.OK}, {1000000, 10, h, 1, 989575, 613, api.OK}, {1000000, -1, h, 0, 0, 0, api.ErrRange}, {most + 1, 0, h, 0, 0, 0, api.ErrRange}, {-most - 1, 0, h, 0, 0, 0, api.ErrRange},
		{0, most + 1, h, 0, 0, 0, api.ErrRange}, {0, 0, -1, 0, 0, 0, api.ErrRange}, {0, 0, unit + 1, 0, 0, 0, api.ErrRange}, {0, 0, h, -1, 0, 0, api.ErrRange}, {0, 0, h, unit + 1, 0, 0, api.ErrRange}, {-most, most, unit, unit, -most - 4300, most + 600 + 27000 + 2, api.OK},
	} {
		if fixed, bound, e := atmos.Correct(example(), x.length, x.by, x.up, x.upBy); fixed != x.fixed || bound != x.bound || e != x.e {
			t.Errorf("%d: Correct = %d, %d, %v, want %d, %d, %v", i, fixed, bound, e, x.fixed, x.bound, x.e)
		}
	}
}

// P31.1: models that are none.
func TestCheck(t *testing.T) {
	var bad []func(m *api.Atmos)
	for _, over := range []int{1000001, -1000001, 1 << 62, -1 << 63} {
		for i := range 4 {
			bad = append(bad, func(m *api.Atmos) { m.Iono[i] = over }, func(m *api.Atmos) { m.Tropo[i%3] = over })
		}
		bad = append(bad, func(m *api.Atmos) { m.IonoBy = over }, func(m *api.Atmos) { m.TropoBy = over })
	}
	bad = append(bad, func(m *api.Atmos) { m.IonoBy = -1 }, func(m *api.Atmos) { m.TropoBy = -1 })
	for i, change := range bad {
		m := example()
		change(&m)
		iono, tropo, e1 := atmos.Delay(m, -1)
		slope, e2 := atmos.Slope(m)
		fixed, bound, e3 := atmos.Correct(m, 0, -1, 0, 0)
		f, e4 := atmos.Frame(m, -1)
		if e := atmos.Check(m); e != api.ErrRange || e1 != e || e2 != e || e3 != e || e4 != e || iono|tropo|slope|fixed|bound != 0 || !reflect.DeepEqual(f, api.Frame{}) {
			t.Errorf("%d: %v, %v, %v, %v, %v", i, e, e1, e2, e3, e4)
		}
	}
	if e := atmos.Check(api.Atmos{}); e != api.OK {
		t.Errorf("Check of zeros = %v", e)
	}
}

// put appends so many bits of a number.
func put(l []int, n, bits int) []int {
	for i := bits - 1; i >= 0; i-- {
		l = append(l, n>>i&1)
	}
	return l
}

// P31.3, P31.6: frames.
func TestFrame(t *testing.T) {
	r := rand.New(rand.NewPCG(31, 3))
	for range 200 {
		m, tow := random(r), r.IntN(131072)
		var want []int
		for _, c := range slices.Concat(m.Iono[:], m.Tropo[:]) {
			want = put(want, c, 21)
		}
		want = append(put(put(want, m.IonoBy, 20), m.TropoBy, 20), make([]int, 19)...)
		f, e := atmos.Frame(m, tow)
		if !reflect.DeepEqual(f, api.Frame{Tow: tow, Kind: 5, Data: want}) || e != api.OK {
			t.Fatalf("Frame = %v, %v", f, e)
		}
		if got, e := atmos.Read(f); got != m || e != api.OK {
			t.Fatalf("Read = %v, %v", got, e)
		}
	}
	for _, tow := range []int{-1, 131072, 1 << 62} {
		if f, e := atmos.Frame(example(), tow); !reflect.DeepEqual(f, api.Frame{}) || e != api.ErrRange {
			t.Errorf("Frame(%d) = %v, %v", tow, f, e)
		}
	}
	for i, change := range []func(f *api.Frame){
		func(f *api.Frame) { f.Kind = 4 }, func(f *api.Frame) { f.Kind = 6 }, func(f *api.Frame) { f.Tow = -1 }, func(f *api.Frame) { f.Tow = 131072 }, func(f *api.Frame) { f.Data = f.Data[:205] }, func(f *api.Frame) { f.Data = append(f.Data, 0) }, func(f *api.Frame) { f.Data = nil }, func(f *api.Frame) { f.Data = f.Data[:187] },
		func(f *api.Frame) { f.Data[3] = 2 }, func(f *api.Frame) { f.Data[200] = 2 }, func(f *api.Frame) { f.Data[187] = 1 }, func(f *api.Frame) { f.Data[205] = 1 }, func(f *api.Frame) { copy(f.Data, put(nil, 1000001, 21)) }, func(f *api.Frame) { copy(f.Data[147:], put(nil, 1000001, 20)) },
	} {
		f, _ := atmos.Frame(example(), 3)
		change(&f)
		if m, e := atmos.Read(f); m != (api.Atmos{}) || e != api.ErrForm {
			t.Errorf("%d: Read = %v, %v", i, m, e)
		}
	}
}
