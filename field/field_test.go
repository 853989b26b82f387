package field_test

import (
	"math/big"
	"math/rand/v2"
	"slices"
	"testing"

	"skyfix/api"
	"skyfix/field"
)

// of returns a field with the unit 1.
func of(at, bits int, signed bool) api.Field {
	return api.Field{At: at, Bits: bits, Signed: signed, Unit: 1}
}

// random returns a valid field within so many bits.
func random(r *rand.Rand, bits int) api.Field {
	f := api.Field{Bits: 1 + r.IntN(min(40, bits)), Signed: r.IntN(2) == 0, Unit: 1 + r.IntN(1<<r.IntN(20))%1000000, Base: (r.IntN(2000000000000001) - 1000000000000000) >> r.IntN(50)}
	f.At = r.IntN(bits - f.Bits + 1)
	return f
}

// ends returns the least and the greatest raw number.
func ends(f api.Field) (low, high int) {
	if f.Signed {
		return -(1 << (f.Bits - 1)), 1<<(f.Bits-1) - 1
	}
	return 0, 1<<f.Bits - 1
}

// raw returns the raw number of a value by the definition.
func raw(f api.Field, v int) int {
	d := new(big.Int).Sub(big.NewInt(int64(v)), big.NewInt(int64(f.Base)))
	n := new(big.Int).Abs(d)
	n.Lsh(n, 1).Add(n, big.NewInt(int64(f.Unit))).Quo(n, big.NewInt(int64(2*f.Unit)))
	if d.Sign() < 0 {
		n.Neg(n)
	}
	return int(n.Int64())
}

// P25.1, P25.2, P25.4, P25.5: limits, and single fields.
func TestPut(t *testing.T) {
	r := rand.New(rand.NewPCG(25, 1))
	for range 1500 {
		f := random(r, 100)
		low, high := ends(f)
		a, b, e := field.Limits(f)
		if a != f.Base+low*f.Unit || b != f.Base+high*f.Unit || e != api.OK {
			t.Fatalf("Limits(%v) = %d, %d, %v", f, a, b, e)
		}
		bits := make([]int, 100)
		for i := range bits {
			bits[i] = r.IntN(2)
		}
		bits[(f.At+f.Bits)%100] = 7
		if f.Bits == 100 {
			continue
		}
		before := slices.Clone(bits)
		for _, v := range []int{a, b, a - 1, b + 1, a - f.Unit, b + f.Unit, a + r.IntN(b-a+1), f.Base, 2000000000000000000, 2000000000000000001, -1 << 63, 1<<63 - 1} {
			n := raw(f, v)
			inside := n >= low && n <= high && v >= -2000000000000000000 && v <= 2000000000000000000
			got, e := field.Put(bits, f, v)
			if !slices.Equal(bits, before) {
				t.Fatal("the list has changed")
			}
			if !inside {
				if got != nil || e != api.ErrOver {
					t.Fatalf("Put(%v, %d) = %v, %v", f, v, got, e)
				}
				continue
			}
			checkPut(t, f, before, got, e, v, n)
		}
	}
}

// checkPut checks a list into which a value was written.
func checkPut(t *testing.T, f api.Field, before, got []int, e api.Errno, v, n int) {
	t.Helper()
	if e != api.OK || !slices.Equal(got[:f.At], before[:f.At]) || !slices.Equal(got[f.At+f.Bits:], before[f.At+f.Bits:]) {
		t.Fatalf("Put(%v, %d) = %v, %v", f, v, got, e)
	}
	for i := range f.Bits {
		if got[f.At+i] != n>>(f.Bits-1-i)&1 {
			t.Fatalf("Put(%v, %d) = %v, want the number %d", f, v, got, n)
		}
	}
	back, e := field.Get(got, f)
	if d := back - v; back != f.Base+n*f.Unit || 2*max(d, -d) > f.Unit || e != api.OK {
		t.Fatalf("Get(%v) = %d, %v, want %d", f, back, e, f.Base+n*f.Unit)
	}
	if again, _ := field.Put(got, f, back); !slices.Equal(again, got) {
		t.Fatal("writing again changes the list")
	}
}

// P25.3, P25.6: several fields.
func TestPack(t *testing.T) {
	r := rand.New(rand.NewPCG(25, 2))
	for range 300 {
		bits := r.IntN(600)
		var l []api.Field
		var values []int
		for at := 0; at+40 <= bits; {
			f := random(r, 40)
			f.At = at + r.IntN(5)
			at = f.At + f.Bits + r.IntN(3)
			if at > bits {
				break
			}
			low, high, _ := field.Limits(f)
			l = append(l, f)
			values = append(values, low+r.IntN(high-low+1))
		}
		r.Shuffle(len(l), func(i, k int) { l[i], l[k], values[i], values[k] = l[k], l[i], values[k], values[i] })
		if f := field.Layout(l, bits); f != (api.Fault{}) {
			t.Fatalf("Layout: %v", f)
		}
		want := make([]int, bits)
		for i, f := range l {
			want, _ = field.Put(want, f, values[i])
		}
		got, fault := field.Pack(l, values, bits)
		if !slices.Equal(got, want) || fault != (api.Fault{}) {
			t.Fatalf("Pack = %v, %v, want %v", got, fault, want)
		}
		back, fault := field.Unpack(l, got)
		if len(back) != len(l) || fault != (api.Fault{}) {
			t.Fatalf("Unpack = %v, %v", back, fault)
		}
		for i, f := range l {
			if v, _ := field.Get(got, f); back[i] != v {
				t.Fatalf("Unpack = %v, want %d at %d", back, v, i)
			}
		}
	}
}

// P25.1: fields that are none.
func TestCheck(t *testing.T) {
	good := api.Field{At: 3960, Bits: 40, Signed: true, Unit: 1000000, Base: -1000000000000000}
	if e := field.Check(good); e != api.OK {
		t.Errorf("Check = %v", e)
	}
	for i, change := range []func(f *api.Field){
		func(f *api.Field) { *f = api.Field{} }, func(f *api.Field) { f.At = -1 }, func(f *api.Field) { f.At, f.Bits = 4001, 1 }, func(f *api.Field) { f.At = 3961 }, func(f *api.Field) { f.At = 1<<63 - 1 },
		func(f *api.Field) { f.Bits = 0 }, func(f *api.Field) { f.At, f.Bits = 0, 41 }, func(f *api.Field) { f.Bits = -1 << 63 },
		func(f *api.Field) { f.Unit = 0 }, func(f *api.Field) { f.Unit = 1000001 }, func(f *api.Field) { f.Base = 1000000000000001 }, func(f *api.Field) { f.Base = -1000000000000001 },
	} {
		f := good
		change(&f)
		low, high, e1 := field.Limits(f)
		l, e2 := field.Put(nil, f, 0)
		v, e3 := field.Get(nil, f)
		if e := field.Check(f); e != api.ErrRange || e1 != api.ErrRange || e2 != api.ErrRange || e3 != api.ErrRange || low|high|v != 0 || l != nil {
			t.Errorf("%d: %v, %v, %v, %v", i, e, e1, e2, e3)
		}
		if fault := field.Layout([]api.Field{of(0, 1, false), f}, 0); fault != (api.Fault{Err: api.ErrShort}) {
			t.Errorf("%d: Layout: %v", i, fault)
		}
		if fault := field.Layout([]api.Field{of(0, 1, false), f}, 4000); fault != (api.Fault{Err: api.ErrRange, At: 1}) {
			t.Errorf("%d: Layout: %v", i, fault)
		}
	}
}

// P25.2: the errors of single fields, in their order.
func TestPutErrors(t *testing.T) {
	for i, x := range []struct {
		bits []int
		f    api.Field
		v    int
		put  api.Errno
		get  api.Errno
	}{
		{[]int{2, 2}, of(0, 3, false), 9, api.ErrShort, api.ErrShort}, {[]int{0, 2, 0}, of(0, 3, false), 9, api.ErrForm, api.ErrForm}, {[]int{0, 0, -1}, of(0, 3, true), 0, api.ErrForm, api.ErrForm},
		{[]int{0, 0, 0}, of(0, 3, false), 8, api.ErrOver, api.OK}, {[]int{0, 0, 0}, of(0, 3, true), 4, api.ErrOver, api.OK}, {[]int{0, 0, 0}, of(0, 3, true), -5, api.ErrOver, api.OK}, {[]int{0, 0, 0}, of(0, 3, false), -1, api.ErrOver, api.OK},
		{[]int{5, 0, 9}, of(1, 1, false), 1, api.OK, api.OK},
	} {
		l, e1 := field.Put(x.bits, x.f, x.v)
		v, e2 := field.Get(x.bits, x.f)
		if e1 != x.put || e2 != x.get || e1 != api.OK && l != nil || v != 0 {
			t.Errorf("%d: %v, %v, want %v, %v", i, e1, e2, x.put, x.get)
		}
	}
}

// P25.3: the faults of layouts, in their order.
func TestFaults(t *testing.T) {
	many := make([]api.Field, 101)
	for i, x := range []struct {
		l      []api.Field
		values []int
		bits   int
		f      api.Fault
		layout api.Fault
	}{
		{many, nil, -1, api.Fault{Err: api.ErrRange}, api.Fault{Err: api.ErrLong, At: 100}}, {many, nil, 4001, api.Fault{Err: api.ErrRange}, api.Fault{Err: api.ErrLong, At: 100}}, {many, nil, 9, api.Fault{Err: api.ErrLong, At: 100}, api.Fault{Err: api.ErrLong, At: 100}},
		{[]api.Field{of(0, 3, false), of(2, 2, false)}, nil, 8, api.Fault{Err: api.ErrDouble, At: 1}, api.Fault{Err: api.ErrDouble, At: 1}}, {[]api.Field{of(0, 3, false), of(3, 6, false)}, nil, 8, api.Fault{Err: api.ErrShort, At: 1}, api.Fault{Err: api.ErrShort, At: 1}},
		{[]api.Field{of(0, 3, false), of(3, 5, false), of(0, 9, true)}, nil, 8, api.Fault{Err: api.ErrShort, At: 2}, api.Fault{Err: api.ErrShort, At: 2}},
		{[]api.Field{of(0, 3, false), of(3, 5, false)}, []int{9}, 8, api.Fault{Err: api.ErrForm, At: 2}, api.Fault{}}, {[]api.Field{of(0, 3, false)}, []int{9, 0}, 8, api.Fault{Err: api.ErrForm, At: 1}, api.Fault{}}, {nil, []int{1}, 8, api.Fault{Err: api.ErrForm}, api.Fault{}},
		{[]api.Field{of(0, 3, false), of(3, 5, true)}, []int{7, 16}, 8, api.Fault{Err: api.ErrOver, At: 1}, api.Fault{}}, {[]api.Field{of(0, 3, false), of(3, 5, true)}, []int{8, 16}, 8, api.Fault{Err: api.ErrOver}, api.Fault{}},
	} {
		l, f := field.Pack(x.l, x.values, x.bits)
		if l != nil || f != x.f {
			t.Errorf("%d: Pack = %v, %v, want %v", i, l, f, x.f)
		}
		if f := field.Layout(x.l, x.bits); f != x.layout && x.bits >= 0 {
			t.Errorf("%d: Layout: %v, want %v", i, f, x.layout)
		}
	}
	l := []api.Field{of(0, 3, false), of(3, 2, false)}
	for i, x := range []struct {
		bits []int
		f    api.Fault
	}{{[]int{0, 0, 0, 0}, api.Fault{Err: api.ErrShort, At: 1}}, {[]int{0, 0, 0, 0, 2}, api.Fault{Err: api.ErrForm, At: 1}}, {[]int{0, 0, -1, 0, 2}, api.Fault{Err: api.ErrForm}}, {[]int{0, 0, 0, 0, 0, 9}, api.Fault{}}} {
		if v, f := field.Unpack(l, x.bits); f != x.f || (v == nil) != (f.Err != api.OK) {
			t.Errorf("%d: Unpack = %v, %v, want %v", i, v, f, x.f)
		}
	}
	if v, f := field.Unpack(l, make([]int, 5000)); !slices.Equal(v, []int{0, 0}) || f != (api.Fault{}) {
		t.Errorf("Unpack of a long list = %v, %v", v, f)
	}
	if l, f := field.Pack(nil, nil, 4000); len(l) != 4000 || f != (api.Fault{}) {
		t.Errorf("Pack of nothing: %d, %v", len(l), f)
	}
}
