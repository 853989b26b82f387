package base

import (
	"testing"

	"skyfix/api"
)

// P39.1: the table is filled by the first sum, with the sums of single bytes.
func TestTable(t *testing.T) {
	Sum(nil)
	for i, sum := range checksums {
		if s := Sum([]byte{byte(i)}); s != sum {
			t.Errorf("Sum(%d) = %d, the table has %d", i, s, sum)
		}
	}
}

// P39.1, P39.2: no result depends on what the table contains.
func TestWithoutTable(t *testing.T) {
	Sum(nil)
	defer func(before [256]int) { checksums = before }(checksums)
	checksums = [256]int{}
	if s := Sum([]byte{mark, 0, 0}); s != 4713035 {
		t.Errorf("Sum = %d", s)
	}
	b, e := Wrap([]byte{7})
	if len(b) != headBytes+1+sumBytes || e != api.OK {
		t.Fatalf("Wrap = %v, %v", b, e)
	}
	if p, at, next, e := Next(append([]byte{mark}, b...), 0); len(p) != 1 || p[0] != 7 || at != 1 || next != 8 || e != api.OK {
		t.Errorf("Next = %v, %d, %d, %v", p, at, next, e)
	}
	if l, e := All(b); len(l) != 1 || e != api.OK {
		t.Errorf("All = %v, %v", l, e)
	}
}
