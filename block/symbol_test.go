package block

import (
	"slices"
	"testing"

	"skyfix/api"
)

// P23.1: the functions in use return what start-up code fills by multiplication with 2.
func TestTables(t *testing.T) {
	for i, x := range powers {
		if power(i) != x {
			t.Errorf("power(%d) = %d, the table has %d", i, power(i), x)
		}
	}
	for x, i := range logarithms {
		if logarithm(x) != i {
			t.Errorf("logarithm(%d) = %d, the table has %d", x, logarithm(x), i)
		}
	}
}

// P23.1, P23.2, P23.3: no result depends on what the tables contain.
func TestWithoutTables(t *testing.T) {
	defer func(p [cycle]int, l [symbols]int) { powers, logarithms = p, l }(powers, logarithms)
	powers, logarithms = [cycle]int{}, [symbols]int{}
	if p, e := Times(11, 6); p != 15 || e != api.OK {
		t.Errorf("Times = %d, %v", p, e)
	}
	if p := Power(19); p != 3 {
		t.Errorf("Power = %d", p)
	}
	if g, e := Gen(2); !slices.Equal(g, []int{1, 13, 12, 8, 7}) || e != api.OK {
		t.Errorf("Gen = %v, %v", g, e)
	}
	data := append(make([]int, 12), 1)
	word, e := Encode(data, 1)
	if !slices.Equal(word, append(data, 6, 8)) || e != api.OK {
		t.Errorf("Encode = %v, %v", word, e)
	}
	one := make([]int, wordLength)
	one[13] = 1
	if s, e := Syndromes(one, 2); !slices.Equal(s, []int{2, 4, 8, 3}) || e != api.OK {
		t.Errorf("Syndromes = %v, %v", s, e)
	}
	word[3] ^= 9
	if d, fixed, e := Decode(word, nil, 1); !slices.Equal(d, data) || !slices.Equal(fixed, []int{3}) || e != api.OK {
		t.Errorf("Decode = %v, %v, %v", d, fixed, e)
	}
}
