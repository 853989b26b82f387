package parity

import (
	"testing"

	"skyfix/api"
)

// P22.1: the masks in use are those that start-up code fills from the chapter's sums.
func TestMasks(t *testing.T) {
	if masks != summed() {
		t.Errorf("masks are %b, summed are %b", masks, summed())
	}
}

// P22.1, P22.2, P22.3: no result depends on what the table contains.
func TestWithoutTable(t *testing.T) {
	defer func(before [parityBits]uint32) { masks = before }(masks)
	masks = [parityBits]uint32{}
	if w, e := Encode(1, 0, 0); w != 83 || e != api.OK {
		t.Errorf("Encode = %d, %v", w, e)
	}
	if w, e := Close(1, 0, 0); w != 344 || e != api.OK {
		t.Errorf("Close = %d, %v", w, e)
	}
	if s, e := Syndrome(83, 0, 0); s != 0 || e != api.OK {
		t.Errorf("Syndrome = %d, %v", s, e)
	}
	if d, e := Data(82, 0, 0); d != 0 || e != api.ErrSum {
		t.Errorf("Data = %d, %v", d, e)
	}
	if l, e := Chain([]int{1, 0}, 0, 0); len(l) != 2 || l[0] != 83 || l[1] != 1073741823 || e != api.OK {
		t.Errorf("Chain = %v, %v", l, e)
	}
	if l, f := Unchain([]api.Word{83, 1073741812}, 0, 0); l != nil || f != (api.Fault{Err: api.ErrSum, At: 1}) {
		t.Errorf("Unchain = %v, %v", l, f)
	}
}
