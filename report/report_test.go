package report_test

import (
	"fmt"
	"math/rand/v2"
	"reflect"
	"slices"
	"strconv"
	"strings"
	"testing"

	"skyfix/api"
	"skyfix/report"
)

const most = 10000000000000

// sentence returns a valid sentence.
func sentence(r *rand.Rand) api.Sentence {
	signed := func() int { return []int{most, -most, 0, r.IntN(2*most+1) - most}[r.IntN(4)] }
	x := api.Sentence{Kind: 1 + r.IntN(3), Time: r.IntN(604800000)}
	switch x.Kind {
	case api.SayFix:
		x.Ok = r.IntN(2) == 0
		for i := range 3 {
			x.Pos[i], x.Level[i] = signed(), max(0, signed())
		}
		for _, prn := range slices.Sorted(slices.Values(r.Perm(63)[:r.IntN(17)])) {
			x.Prns = append(x.Prns, prn+1)
		}
	case api.SayChannel:
		x.Ok, x.Prn, x.Lag, x.Power = r.IntN(2) == 0, 1+r.IntN(63), r.IntN(8192), r.IntN(1000000000000000001)
	case api.SayText:
		for range r.IntN(81) {
			if c := byte(32 + r.IntN(95)); !strings.ContainsRune(",*$", rune(c)) {
				x.Text += string(rune(c))
			}
		}
	}
	return x
}

// sum returns the checksum by the definition.
func sum(s string) int {
	n := byte(0)
	for _, c := range []byte(s) {
		n ^= c
	}
	return int(n)
}

// framed returns a line with its checksum.
func framed(body string) string { return fmt.Sprintf("$%s*%02X", body, sum(body)) }

// line returns the line by the definition.
func line(x api.Sentence) string {
	ok := map[bool]int{true: 1}[x.Ok]
	switch x.Kind {
	case api.SayFix:
		body := fmt.Sprintf("FIX,%d,%d,%d,%d,%d,%d,%d,%d,%d", x.Time, ok, x.Pos[0], x.Pos[1], x.Pos[2], x.Level[0], x.Level[1], x.Level[2], len(x.Prns))
		for _, prn := range x.Prns {
			body += "," + strconv.Itoa(prn)
		}
		return framed(body)
	case api.SayChannel:
		return framed(fmt.Sprintf("SAT,%d,%d,%d,%d,%d", x.Time, ok, x.Prn, x.Lag, x.Power))
	}
	return framed(fmt.Sprintf("TXT,%d,%s", x.Time, x.Text))
}

// P41.1, P41.2, P41.4, P41.5: lines.
func TestLine(t *testing.T) {
	r := rand.New(rand.NewPCG(41, 1))
	for range 1000 {
		x := sentence(r)
		s, e := report.Line(x)
		if s != line(x) || e != api.OK || report.Check(x) != api.OK {
			t.Fatalf("Line(%v) = %s, %v", x, s, e)
		}
		if got, f := report.Parse(s); !reflect.DeepEqual(got, x) || f != (api.Fault{}) {
			t.Fatalf("Parse(%s) = %v, %v", s, got, f)
		}
		b := []byte(s)
		at := 1 + r.IntN(len(b)-4)
		b[at] ^= byte(1 + r.IntN(255))
		if got, f := report.Parse(string(b)); !reflect.DeepEqual(got, api.Sentence{}) || f.Err == api.OK {
			t.Fatalf("Parse(%q) = %v, %v", b, got, f)
		}
		// With any other body, and the right checksum, there is only one line for each sentence.
		body := []byte(s[1 : len(s)-3])
		body[r.IntN(len(body))] = "0123456789-,$ A"[r.IntN(15)]
		changed := framed(string(body))
		if got, f := report.Parse(changed); f.Err == api.OK {
			if again, e := report.Line(got); again != changed || e != api.OK {
				t.Fatalf("Parse(%s) = %v, whose line is %s, %v", changed, got, again, e)
			}
		}
	}
	for want, s := range map[int]string{0: "AA", 65: "A", 108: "TXT,5,hi"} {
		if n := report.Sum(s); n != want {
			t.Errorf("Sum(%s) = %d", s, n)
		}
	}
	if s, _ := report.Line(api.Sentence{Kind: 2, Ok: true, Prn: 3, Lag: 7, Power: 10}); s != "$SAT,0,1,3,7,10*6E" {
		t.Errorf("Line = %s", s)
	}
}

// P41.1: sentences that are none.
func TestCheck(t *testing.T) {
	for i, x := range []struct {
		x api.Sentence
		e api.Errno
	}{
		{api.Sentence{Time: -1}, api.ErrForm}, {api.Sentence{Kind: 4}, api.ErrForm}, {api.Sentence{Kind: -1}, api.ErrForm}, {api.Sentence{Kind: 3, Time: -1, Ok: true}, api.ErrRange}, {api.Sentence{Kind: 3, Time: 604800000}, api.ErrRange},
		{api.Sentence{Kind: 1, Prn: 1, Pos: [3]int{most + 1}}, api.ErrForm}, {api.Sentence{Kind: 1, Lag: 1}, api.ErrForm}, {api.Sentence{Kind: 1, Power: 1}, api.ErrForm}, {api.Sentence{Kind: 1, Text: "a"}, api.ErrForm},
		{api.Sentence{Kind: 2, Pos: [3]int{0, 1}}, api.ErrForm}, {api.Sentence{Kind: 2, Level: [3]int{0, 1}}, api.ErrForm}, {api.Sentence{Kind: 2, Prns: []int{1}}, api.ErrForm}, {api.Sentence{Kind: 2, Text: "a"}, api.ErrForm},
		{api.Sentence{Kind: 3, Ok: true}, api.ErrForm}, {api.Sentence{Kind: 3, Pos: [3]int{1}}, api.ErrForm}, {api.Sentence{Kind: 3, Level: [3]int{1}}, api.ErrForm}, {api.Sentence{Kind: 3, Prns: []int{1}}, api.ErrForm}, {api.Sentence{Kind: 3, Prn: 1}, api.ErrForm}, {api.Sentence{Kind: 3, Lag: 1}, api.ErrForm}, {api.Sentence{Kind: 3, Power: 1}, api.ErrForm},
		{api.Sentence{Kind: 1, Pos: [3]int{0, 0, most + 1}, Prns: make([]int, 17)}, api.ErrRange}, {api.Sentence{Kind: 1, Pos: [3]int{-most - 1}}, api.ErrRange}, {api.Sentence{Kind: 1, Level: [3]int{0, -1}}, api.ErrRange}, {api.Sentence{Kind: 1, Level: [3]int{most + 1}}, api.ErrRange},
		{api.Sentence{Kind: 1, Prns: make([]int, 17)}, api.ErrLong}, {api.Sentence{Kind: 1, Prns: []int{5, 0}}, api.ErrRange}, {api.Sentence{Kind: 1, Prns: []int{64}}, api.ErrRange}, {api.Sentence{Kind: 1, Prns: []int{5, 5, 0}}, api.ErrOrder}, {api.Sentence{Kind: 1, Prns: []int{5, 4}}, api.ErrOrder}, {api.Sentence{Kind: 1, Prns: []int{5, 0, 5}}, api.ErrRange},
		{api.Sentence{Kind: 2}, api.ErrRange}, {api.Sentence{Kind: 2, Prn: 64}, api.ErrRange}, {api.Sentence{Kind: 2, Prn: 1, Lag: -1}, api.ErrRange}, {api.Sentence{Kind: 2, Prn: 1, Lag: 8192}, api.ErrRange}, {api.Sentence{Kind: 2, Prn: 1, Power: -1}, api.ErrRange}, {api.Sentence{Kind: 2, Prn: 1, Power: 1000000000000000001}, api.ErrRange},
		{api.Sentence{Kind: 3, Text: strings.Repeat("$", 81)}, api.ErrLong}, {api.Sentence{Kind: 3, Text: "a,b"}, api.ErrForm}, {api.Sentence{Kind: 3, Text: "*"}, api.ErrForm}, {api.Sentence{Kind: 3, Text: "$"}, api.ErrForm}, {api.Sentence{Kind: 3, Text: "\t"}, api.ErrForm}, {api.Sentence{Kind: 3, Text: "\x7f"}, api.ErrForm}, {api.Sentence{Kind: 3, Text: "ä"}, api.ErrForm},
	} {
		s, e := report.Line(x.x)
		all, e2 := report.Lines([]api.Sentence{{Kind: 3}, x.x, {}})
		if report.Check(x.x) != x.e || e != x.e || e2 != x.e || s != "" || all != "" {
			t.Errorf("%d: %v, %v, %v, want %v", i, report.Check(x.x), e, e2, x.e)
		}
	}
}

// P41.2: the faults of what stands around the fields.
func TestFramed(t *testing.T) {
	long := "$" + strings.Repeat("x", 500)
	for i, x := range []struct {
		s string
		f api.Fault
	}{
		{long, api.Fault{Err: api.ErrLong, At: 500}}, {long[1:], api.Fault{Err: api.ErrSyntax}}, {long[:500], api.Fault{Err: api.ErrSyntax, At: 500}}, {"", api.Fault{Err: api.ErrSyntax}}, {"TXT", api.Fault{Err: api.ErrSyntax}}, {"$", api.Fault{Err: api.ErrSyntax, At: 1}}, {"$TXT,5,hi", api.Fault{Err: api.ErrSyntax, At: 9}},
		{"$TXT,5,hi*", api.Fault{Err: api.ErrSyntax, At: 10}}, {"$TXT,5,hi*6", api.Fault{Err: api.ErrSyntax, At: 11}}, {"$TXT,5,hi*6c", api.Fault{Err: api.ErrSyntax, At: 11}}, {"$TXT,5,hi*g6", api.Fault{Err: api.ErrSyntax, At: 10}}, {"$TXT,5,hi*6C ", api.Fault{Err: api.ErrSyntax, At: 12}}, {"$TXT,5,hi*6D", api.Fault{Err: api.ErrSum, At: 10}}, {"$TXT,5,hi*6D7", api.Fault{Err: api.ErrSyntax, At: 12}}, {"$TXT*,5,hi*6C", api.Fault{Err: api.ErrSyntax, At: 5}},
		{"$*00", api.Fault{Err: api.ErrSyntax, At: 1}}, {"$x*00", api.Fault{Err: api.ErrSum, At: 3}},
	} {
		if got, f := report.Parse(x.s); !reflect.DeepEqual(got, api.Sentence{}) || f != x.f {
			t.Errorf("%d: Parse(%.20s): %v, want %v", i, x.s, f, x.f)
		}
	}
}

// P41.2: the faults of fields, from the left.
func TestFields(t *testing.T) {
	const fix = "FIX,5,1,1,2,3,4,5,6,"
	for i, x := range []struct {
		body string
		f    api.Fault
	}{
		{"ABC", api.Fault{Err: api.ErrSyntax, At: 1}}, {"TXTX,5", api.Fault{Err: api.ErrSyntax, At: 1}}, {",TXT", api.Fault{Err: api.ErrSyntax, At: 1}}, {"txt,5,a", api.Fault{Err: api.ErrSyntax, At: 1}}, {"TXT", api.Fault{Err: api.ErrSyntax, At: 4}}, {"TXT,", api.Fault{Err: api.ErrSyntax, At: 5}}, {"TXT,5", api.Fault{Err: api.ErrSyntax, At: 6}}, {"TXT,05", api.Fault{Err: api.ErrSyntax, At: 5}},
		{"TXT,-0,a", api.Fault{Err: api.ErrSyntax, At: 5}}, {"TXT,+1,a", api.Fault{Err: api.ErrSyntax, At: 5}}, {"TXT,-,a", api.Fault{Err: api.ErrSyntax, At: 5}}, {"TXT,1x,a", api.Fault{Err: api.ErrSyntax, At: 5}}, {"TXT, 1,a", api.Fault{Err: api.ErrSyntax, At: 5}}, {"TXT,-05,a", api.Fault{Err: api.ErrSyntax, At: 5}}, {"TXT,00,a", api.Fault{Err: api.ErrSyntax, At: 5}}, {"TXT,--5,a", api.Fault{Err: api.ErrSyntax, At: 5}},
		{"TXT,-5,a", api.Fault{Err: api.ErrRange, At: 5}}, {"TXT,604800000,a", api.Fault{Err: api.ErrRange, At: 5}}, {"TXT,9999999999999999999,a", api.Fault{Err: api.ErrRange, At: 5}}, {"TXT,-9999999999999999999,a", api.Fault{Err: api.ErrRange, At: 5}}, {"TXT,10000000000000000000,a", api.Fault{Err: api.ErrSyntax, At: 5}},
		{"TXT,5,a$", api.Fault{Err: api.ErrForm, At: 7}}, {"TXT,5,a\x01", api.Fault{Err: api.ErrForm, At: 7}}, {"TXT,5," + strings.Repeat("$", 81), api.Fault{Err: api.ErrLong, At: 7}}, {"TXT,5,a,b", api.Fault{Err: api.ErrSyntax, At: 9}}, {"TXT,5,a,", api.Fault{Err: api.ErrSyntax, At: 9}}, {"TXT,5,$,b", api.Fault{Err: api.ErrForm, At: 7}}, {"TXT,5,,", api.Fault{Err: api.ErrSyntax, At: 8}},
		{"SAT,5,2,1,1,1", api.Fault{Err: api.ErrRange, At: 7}}, {"SAT,5,-1,1,1,1", api.Fault{Err: api.ErrRange, At: 7}}, {"SAT,5,1,0,1,1", api.Fault{Err: api.ErrRange, At: 9}}, {"SAT,5,1,64,1,1", api.Fault{Err: api.ErrRange, At: 9}}, {"SAT,5,1,1,8192,1", api.Fault{Err: api.ErrRange, At: 11}}, {"SAT,5,1,1,1,1000000000000000001", api.Fault{Err: api.ErrRange, At: 13}}, {"SAT,5,1,1,1", api.Fault{Err: api.ErrSyntax, At: 12}}, {"SAT,5,1,1,1,1,1", api.Fault{Err: api.ErrSyntax, At: 15}}, {"SAT,x,2,0", api.Fault{Err: api.ErrSyntax, At: 5}},
		{"FIX,5,1,10000000000001,2,3,4,5,6,0", api.Fault{Err: api.ErrRange, At: 9}}, {"FIX,5,1,1,2,3,-1,5,6,0", api.Fault{Err: api.ErrRange, At: 15}}, {"FIX,5,1,1,2,3,4,5,10000000000001,0", api.Fault{Err: api.ErrRange, At: 19}},
		{fix + "17,1", api.Fault{Err: api.ErrLong, At: 21}}, {fix + "9999999999999999999", api.Fault{Err: api.ErrLong, At: 21}}, {fix + "-1", api.Fault{Err: api.ErrRange, At: 21}}, {fix + "-9999999999999999999", api.Fault{Err: api.ErrRange, At: 21}}, {fix + "x", api.Fault{Err: api.ErrSyntax, At: 21}}, {fix, api.Fault{Err: api.ErrSyntax, At: 21}}, {fix + "1", api.Fault{Err: api.ErrSyntax, At: 22}}, {fix + "1,", api.Fault{Err: api.ErrSyntax, At: 23}},
		{fix + "1,64", api.Fault{Err: api.ErrRange, At: 23}}, {fix + "2,5,5", api.Fault{Err: api.ErrOrder, At: 25}}, {fix + "2,5,4,x", api.Fault{Err: api.ErrOrder, At: 25}}, {fix + "2,5,0", api.Fault{Err: api.ErrRange, At: 25}}, {fix + "0,5", api.Fault{Err: api.ErrSyntax, At: 23}}, {fix + "2,5", api.Fault{Err: api.ErrSyntax, At: 24}},
	} {
		if got, f := report.Parse(framed(x.body)); !reflect.DeepEqual(got, api.Sentence{}) || f != x.f {
			t.Errorf("%d: Parse(%s): %v, want %v", i, framed(x.body), f, x.f)
		}
	}
	if x, f := report.Parse(framed("TXT,5,")); !reflect.DeepEqual(x, api.Sentence{Kind: 3, Time: 5}) || f != (api.Fault{}) {
		t.Errorf("Parse of an empty text = %v, %v", x, f)
	}
}

// P41.3, P41.6: several lines.
func TestLines(t *testing.T) {
	r := rand.New(rand.NewPCG(41, 2))
	for range 100 {
		var l []api.Sentence
		var text, mixed string
		var bad []int
		for i := 0; len(l) < r.IntN(30); i++ {
			if r.IntN(3) == 0 {
				bad = append(bad, i)
				mixed += []string{"", "x", "$TXT,5,hi*6D", "\r"}[r.IntN(4)] + "\n"
				continue
			}
			l = append(l, sentence(r))
			s, _ := report.Line(l[len(l)-1])
			text, mixed = text+s+"\n", mixed+s+"\n"
		}
		if s, e := report.Lines(l); s != text || e != api.OK {
			t.Fatalf("Lines = %q, %v", s, e)
		}
		got, none, e := report.Split(mixed)
		if !slices.EqualFunc(got, l, func(a, b api.Sentence) bool { return reflect.DeepEqual(a, b) }) || !slices.Equal(none, bad) || e != api.OK {
			t.Fatalf("Split(%q) = %v, %v, %v, want %v", mixed, got, none, e, bad)
		}
	}
	for s, want := range map[string][]int{"": nil, "\n": {0}, "\n\n": {0, 1}, "x": {0}, "x\n": {0}, "x\ny": {0, 1}, "$TXT,5,hi*6C": nil, "$TXT,5,hi*6C\nx\n\n": {1, 2}} {
		if _, bad, e := report.Split(s); !slices.Equal(bad, want) || e != api.OK {
			t.Errorf("Split(%q): %v, %v", s, bad, e)
		}
	}
	if s, e := report.Lines(slices.Repeat([]api.Sentence{{}}, 201)); s != "" || e != api.ErrLong {
		t.Errorf("Lines of too many: %v", e)
	}
	if s, e := report.Lines(slices.Repeat([]api.Sentence{{Kind: 3}}, 200)); strings.Count(s, "\n") != 200 || e != api.OK {
		t.Errorf("Lines of as many as possible: %v", e)
	}
	if l, bad, e := report.Split(strings.Repeat("x", 100001)); l != nil || bad != nil || e != api.ErrLong {
		t.Errorf("Split of too much: %v", e)
	}
	if _, bad, e := report.Split(strings.Repeat("\n", 100000)); len(bad) != 100000 || e != api.OK {
		t.Errorf("Split of as much as possible: %d, %v", len(bad), e)
	}
}
