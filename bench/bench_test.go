package bench_test

import (
	"fmt"
	"reflect"
	"slices"
	"strings"
	"testing"

	"skyfix/acquire"
	"skyfix/api"
	"skyfix/bank"
	"skyfix/bench"
	"skyfix/bitsync"
	"skyfix/cross"
	"skyfix/detect"
	"skyfix/discr"
	"skyfix/gold"
	"skyfix/quant"
	"skyfix/signal"
	"skyfix/track"
)

// exchange is a line and its result.
type exchange struct{ line, result string }

// play carries out lines with a bench, and checks their results.
func play(t *testing.T, b *bench.Bench, l ...exchange) {
	t.Helper()
	for _, x := range l {
		if got, f := b.Line(x.line); got != x.result || f != (api.Fault{}) {
			t.Fatalf("%s: %s, %v, want %s", x.line, got, f, x.result)
		}
	}
}

// The examples of the chapter.
func TestExamples(t *testing.T) {
	side, _ := cross.Side(5, 2, 1)
	l := []exchange{
		{"plan 5 2 2 10 10 0 1", "62"}, {"emit 1 5 0 0 0 10 0 01", "1"}, {"make 400", "400"}, {"gain 8", "bits 8 shift 4 lost 0"},
		{"sum 1 5", "4898 0"}, {"three 1 5 1", "66"}, {"find 1 0 2", "at 5 power 47980808 claimed yes"},
		{"track 1 5 1 0 0 9", "epochs 6 claimed 6 locked yes at 377"}, {"bits", "001100"}, {"edge 1", "0"}, {"read 0", "010"},
		{"cross 1 1", fmt.Sprint(side)}, {"code 35", "error 2"}, {"all 0 17", "error 2"},
		{"sight 1 20000000000 0 0 20000000500 1000", "1"}, {"sight 2 0 20000000000 0 20000000500 1000", "2"}, {"sight 3 0 0 20000000000 20000000500 1000", "3"}, {"sight 4 -20000000000 0 0 20000000500 1000", "4"},
		{"prior 0 0 0 0 500", "ok"}, {"solve", "0 0 0 bias 500 steps 1 closed yes"}, {"answer", "kind 1 at 0 0 0 bias 500 level 1004 2008 2008 1004 excluded 0"},
	}
	b := bench.New()
	play(t, b, l...)
	if got, f := b.Line("jump"); got != "" || f != (api.Fault{Err: api.ErrUnknown}) {
		t.Errorf("jump: %s, %v", got, f)
	}
	var lines, results []string
	for i, x := range l {
		lines = append(lines, x.line)
		results = append(results, x.result)
		if i%3 == 0 {
			lines = append(lines, "", "# a comment")
		}
	}
	if got, f := bench.Run(strings.Join(lines, "\n")); !slices.Equal(got, results) || f != (api.Fault{}) {
		t.Errorf("Run = %v, %v", got, f)
	}
}

// noise returns the noise of a seed by the definition.
func noise(x, n, most int) []api.Sample {
	l := make([]api.Sample, n)
	for i := range l {
		for _, c := range []*int{&l[i].I, &l[i].Q} {
			x = (1103515245*x + 12345) % (1 << 31)
			*c = x/65536%(2*most+1) - most
		}
	}
	return l
}

// TestCommands compares the results with those of the functions below.
func TestCommands(t *testing.T) {
	p := api.Plan{Degree: 7, Over: 2, PerBit: 3, Words: 2, MinAmp: 90, MaxAmp: 100, Noise: 20, Prns: []int{7, 100}}
	l := []api.Emitter{{Prn: 100, Delay: 17, Rate: -3, Step: 5 << 26, Phase: 63 << 26, Amp: 95, BitAt: 2, Bits: []int{0, 1, 1}}, {Prn: 7, Delay: 200, Amp: 90}}
	raw, _ := signal.Make(p, l, noise(12345, 4000, 20), 4000)
	g, _ := quant.Least(raw, 7)
	q, _ := quant.Quantise(raw, g)
	coarse := api.Gain{Bits: 3, Shift: 2}
	lossy, _ := quant.Quantise(raw, coarse)
	s := q.S
	b := bench.New()
	play(t, b,
		exchange{"plan 7 2 3 90 100 20 7 100", "254"}, exchange{"emit 100 17 -3 5 63 95 2 011", "1"}, exchange{"emit 7 200 0 0 0 90 0 -", "2"}, exchange{"noise 12345", "12345"}, exchange{"make 4000", "4000"},
		exchange{"level 3 2", fmt.Sprintf("bits 3 shift 2 lost %d", lossy.Lost)},
	)
	if lossy.Lost == 0 || !slices.Equal(b.Levels(), lossy.S) {
		t.Errorf("the levels are others, of which %d are lost", lossy.Lost)
	}
	sum, _ := bank.Sum(s, 7, 2, 7, 200)
	three, _ := bank.Three(s, 7, 2, 100, 17, 2)
	share, _ := discr.Code(three)
	bound, _ := detect.Bound(p, g, 7)
	threshold, _ := detect.Threshold(p, g, 7)
	sure, _ := detect.Sure(p, g, 7)
	h, claimed, _ := acquire.Acquire(s, p, g, 7, 3, 4)
	all, _ := acquire.All(s, p, g, 0, 2)
	confirmed, _ := acquire.Confirm(s, p, g, h, 9)
	step, _ := acquire.Step(s, p, h, 16)
	still := api.Loop{Order: 1, Shift: [3]int{20, 20, 20}, Limit: 1}
	c, _ := track.New(p, 7, 200, 2, still, still, 3<<26, 62<<26, 2, 3)
	last, epochs, _ := track.Run(s, p, g, c, 12)
	yes := map[bool]string{true: "yes", false: "no"}
	many := 0
	var prompts []api.Sample
	for _, x := range epochs {
		if x.Claimed {
			many++
		}
		prompts = append(prompts, x.Prompt)
	}
	list := "none"
	for i, h := range all {
		list = map[bool]string{true: "", false: list + ", "}[i == 0] + fmt.Sprintf("%d@%d", h.Prn, h.At)
	}
	read, _ := bitsync.Read(prompts, 3, 1)
	digits := func(bits []int) string { return strings.Join(strings.Fields(strings.Trim(fmt.Sprint(bits), "[]")), "") }
	code, _ := gold.Code(7, 9)
	for i := range code {
		code[i] = (1 - code[i]) / 2
	}
	alike, _ := cross.Cross(7, 2, 7, 100)
	play(t, b,
		exchange{"gain 7", fmt.Sprintf("bits 7 shift %d lost 0", g.Shift)}, exchange{"sum 7 200", fmt.Sprintf("%d %d", sum.I, sum.Q)}, exchange{"three 100 17 2", fmt.Sprint(share)},
		exchange{"bound 7", fmt.Sprintf("bound %d threshold %d sure %s", bound, threshold, yes[sure])}, exchange{"find 7 3 4", fmt.Sprintf("at %d power %d claimed %s", h.At, h.Power, yes[claimed])}, exchange{"all 0 2", list},
		exchange{"confirm 9", fmt.Sprint(confirmed)}, exchange{"step 16", fmt.Sprint(step)}, exchange{"track 7 200 2 3 62 12", fmt.Sprintf("epochs %d claimed %d locked %s at %d", len(epochs), many, yes[last.Lock.Locked], last.At)},
		exchange{"bits", digits(track.Bits(epochs))}, exchange{"read 1", digits(read)}, exchange{"code 9", digits(code)}, exchange{"cross 7 100", fmt.Sprint(alike)},
	)
	if !slices.Equal(b.Levels(), s) || !reflect.DeepEqual(b.Plan(), p) {
		t.Errorf("Plan = %v", b.Plan())
	}
	if !strings.Contains(list, "@") {
		t.Errorf("All finds %s", list)
	}
}

// What a bench lets go, and what it does not have.
func TestStates(t *testing.T) {
	b := bench.New()
	needGain := []string{"sum 1 0", "three 1 0 1", "bound 1", "find 1 0 1", "all 0 1", "track 1 5 1 0 0 9"}
	without := func(lines ...string) {
		t.Helper()
		for _, s := range lines {
			play(t, b, exchange{s, "error 13"})
		}
	}
	without(append(needGain, "gain 8", "level 8 0", "confirm 1", "step 1", "bits", "edge 1", "read 0")...)
	if b.Levels() != nil {
		t.Errorf("Levels = %v", b.Levels())
	}
	scene := []exchange{{"plan 5 2 2 10 10 0 1", "62"}, {"emit 1 5 0 0 0 10 0 01", "1"}, {"make 400", "400"}}
	found := []exchange{{"gain 8", "bits 8 shift 4 lost 0"}, {"find 1 0 2", "at 5 power 47980808 claimed yes"}, {"track 1 5 1 0 0 9", "epochs 6 claimed 6 locked yes at 377"}}
	for _, again := range []string{"gain 8", "level 8 4", "make 400", "plan 5 2 2 10 10 0 1"} {
		play(t, b, scene...)
		play(t, b, found...)
		play(t, b, exchange{"confirm 1", "1"}, exchange{"bits", "001100"})
		if _, f := b.Line(again); f != (api.Fault{}) {
			t.Fatal(f)
		}
		without("confirm 1", "step 1", "bits", "edge 1", "read 0")
		if strings.HasPrefix(again, "make") || strings.HasPrefix(again, "plan") {
			without(needGain...)
		}
		if strings.HasPrefix(again, "plan") {
			without("gain 8")
		}
	}
	// An empty list is not none.
	play(t, b, scene[0], exchange{"make 0", "0"}, exchange{"gain 8", "bits 8 shift 0 lost 0"}, exchange{"track 1 5 1 0 0 9", "epochs 0 claimed 0 locked no at 5"}, exchange{"bits", "none"}, exchange{"edge 1", "error 18"}, exchange{"read 0", "error 16"})
	if l := b.Levels(); len(l) != 0 {
		t.Errorf("Levels = %v", l)
	}
	// The seed is let go with the plan, and kept otherwise.
	play(t, b, exchange{"plan 5 2 2 10 10 3 1", "62"}, exchange{"noise 7", "7"}, exchange{"make 5", "5"}, exchange{"gain 8", "bits 8 shift 0 lost 0"})
	if got := b.Levels(); !slices.Equal(got, noise(7, 5, 3)) {
		t.Errorf("Levels = %v, want %v", got, noise(7, 5, 3))
	}
	play(t, b, exchange{"make 3", "3"}, exchange{"gain 8", "bits 8 shift 0 lost 0"})
	if got := b.Levels(); !slices.Equal(got, noise(7, 3, 3)) {
		t.Errorf("Levels = %v", got)
	}
	play(t, b, exchange{"plan 5 2 2 10 10 3 1", "62"}, exchange{"make 3", "3"}, exchange{"gain 8", "bits 8 shift 0 lost 0"})
	if got := b.Levels(); !slices.Equal(got, make([]api.Sample, 3)) {
		t.Errorf("Levels = %v", got)
	}
}

// The errors of commands, in their order.
func TestCommandErrors(t *testing.T) {
	b := bench.New()
	play(t, b,
		exchange{"plan 8 2 2 10 10 0 1", "error 2"}, exchange{"plan 9 2 2 10 10 0", "error 2"}, exchange{"plan 5 4 2 10 10 0 1 2 3 4 5", "error 2"}, exchange{"plan 5 0 2 10 10 0", "error 2"}, exchange{"plan 5 2 0 10 10 0 1 2 3 4 5", "error 4"}, exchange{"plan 5 2 2 10 10 0", "error 3"}, exchange{"plan 5 2 0 10 10 0", "error 2"}, exchange{"plan 5 2 2 11 10 0 1", "error 2"}, exchange{"plan 5 2 2 10 10 0 1 1", "error 8"}, exchange{"plan 5 2 2 10 10 0 34", "error 2"},
		exchange{"plan 5 3 2 10 10 0 1 2 3 4", "93"}, exchange{"emit 5 0 0 0 64 10 0 0", "error 2"}, exchange{"emit 5 0 0 64 0 10 0 0", "error 2"}, exchange{"emit 5 0 0 0 -1 10 0 0", "error 2"}, exchange{"emit 5 0 0 0 0 10 0 0", "error 18"}, exchange{"emit 1 93 0 0 0 10 0 0", "error 2"}, exchange{"emit 1 0 0 0 0 9 0 0", "error 2"}, exchange{"emit 1 92 0 63 63 10 1 0", "1"}, exchange{"emit 1 0 0 0 0 10 0 -", "error 8"}, exchange{"emit 1 0 0 0 0 9 0 -", "error 2"},
		exchange{"emit 2 0 0 0 0 10 0 -", "2"}, exchange{"emit 3 0 0 0 0 10 0 -", "3"}, exchange{"emit 4 0 0 0 0 10 0 -", "4"}, exchange{"emit 9 0 0 99 0 10 0 -", "error 12"}, exchange{"noise -1", "error 2"}, exchange{"noise 2147483648", "error 2"}, exchange{"noise 2147483647", "2147483647"}, exchange{"make -1", "error 2"}, exchange{"make 4097", "error 2"}, exchange{"make 4096", "4096"},
		exchange{"gain 1", "error 2"}, exchange{"gain 9", "error 2"}, exchange{"level 8 31", "error 2"}, exchange{"gain 2", "bits 2 shift 12 lost 0"}, exchange{"sum 34 0", "error 2"}, exchange{"sum 1 2000001", "error 2"}, exchange{"three 1 0 65", "error 2"}, exchange{"bound 5", "error 18"}, exchange{"find 5 0 1", "error 18"}, exchange{"find 1 4000 1", "error 16"}, exchange{"all 0 0", "error 2"}, exchange{"all 4000 1", "error 16"},
		exchange{"track 5 0 1 64 0 1", "error 2"}, exchange{"track 5 0 1 0 64 1", "error 2"}, exchange{"track 5 0 1 0 0 1", "error 18"}, exchange{"track 1 0 0 0 0 1", "error 2"}, exchange{"track 1 0 1 0 0 10001", "error 2"}, exchange{"track 1 0 1 0 0 1", "epochs 0 claimed 0 locked no at 0"}, exchange{"edge 0", "error 2"}, exchange{"edge 1", "error 18"}, exchange{"read 2", "error 2"}, exchange{"read 0", "error 16"}, exchange{"code 0", "error 2"}, exchange{"cross 1 34", "error 2"}, exchange{"cross 34 34", "error 2"},
		exchange{"solve", "error 16"}, exchange{"answer", "error 16"}, exchange{"find 1 0 1", "at 92 power 1225 claimed no"}, exchange{"confirm 101", "error 2"}, exchange{"confirm -1", "error 2"}, exchange{"step 3", "error 3"},
	)
	for i := range 8 {
		play(t, b, exchange{"sight -5 0 0 0 0 0", fmt.Sprint(i + 1)})
	}
	play(t, b, exchange{"sight 1 0 0 0 0 0", "error 12"}, exchange{"solve", "error 2"}, exchange{"clear", "0"}, exchange{"solve", "error 16"}, exchange{"sight 1 0 0 0 0 0", "1"}, exchange{"prior 0 0 0 -1 -99999999999999", "ok"})
}

// P43.1: the faults of lines.
func TestFaults(t *testing.T) {
	syntax := func(at int) api.Fault { return api.Fault{Err: api.ErrSyntax, At: at} }
	unknown := api.Fault{Err: api.ErrUnknown}
	b := bench.New()
	play(t, b, exchange{"plan 5 2 2 10 10 0 1", "62"}, exchange{"emit 1 5 0 0 0 10 0 01", "1"}, exchange{"make 400", "400"}, exchange{"gain 8", "bits 8 shift 4 lost 0"})
	for i, x := range []struct {
		line string
		f    api.Fault
	}{
		{strings.Repeat("x", 501), api.Fault{Err: api.ErrLong, At: 500}}, {"#" + strings.Repeat("x", 500), api.Fault{Err: api.ErrLong, At: 500}}, {strings.Repeat("x", 500), unknown}, {" ", unknown}, {" solve", unknown}, {"Solve", unknown}, {"solves", unknown}, {"\t", unknown},
		{"solve ", syntax(5)}, {"solve 1", syntax(5)}, {"clear  ", syntax(5)}, {"noise", syntax(5)}, {"noise ", syntax(6)}, {"noise  1", syntax(6)}, {"noise 1 ", syntax(7)}, {"noise 1 2", syntax(7)}, {"noise x", syntax(6)}, {"noise 01", syntax(6)}, {"noise -0", syntax(6)}, {"noise +1", syntax(6)}, {"noise -", syntax(6)}, {"noise 1x", syntax(6)}, {"noise 1\t", syntax(6)}, {"noise 123456789012345", syntax(6)}, {"noise -123456789012345", syntax(6)},
		{"sum 1", syntax(5)}, {"sum x", syntax(4)}, {"sum 1 x 2", syntax(6)}, {"sum 1 2 x", syntax(7)}, {"sum  1 2", syntax(4)}, {"sum 1  2", syntax(6)}, {"plan 5 2 2 10 10", syntax(16)}, {"plan 5 2 2 10 10 0 ", syntax(19)}, {"plan 5 2 2 10 10 0 1 x", syntax(21)}, {"plan 5 2 2 10 10 0 1  2", syntax(21)},
		{"emit 1 5 0 0 0 10 0", syntax(19)}, {"emit 1 5 0 0 0 10 0 ", syntax(20)}, {"emit 1 5 0 0 0 10 0 012", syntax(20)}, {"emit 1 5 0 0 0 10 0 --", syntax(20)}, {"emit 1 5 0 0 0 10 0 -1", syntax(20)}, {"emit 1 5 0 0 0 10 0 " + strings.Repeat("0", 65), syntax(20)}, {"emit 1 5 0 0 0 10 0 01 ", syntax(22)}, {"emit 1 5 0 0 0 10 x 2", syntax(18)}, {"emit - 5 0 0 0 10 0 2", syntax(5)},
	} {
		before := b.Levels()
		if got, f := b.Line(x.line); got != "" || f != x.f {
			t.Errorf("%d: %q: %s, %v, want %v", i, x.line, got, f, x.f)
		}
		if !slices.Equal(b.Levels(), before) {
			t.Errorf("%d: the levels have changed", i)
		}
		results, f := bench.Run("noise 5\n\n" + x.line + "\nnoise 6")
		if want := (api.Fault{Err: x.f.Err, At: 2}); !slices.Equal(results, []string{"5"}) || f != want {
			t.Errorf("%d: Run = %v, %v, want %v", i, results, f, want)
		}
	}
	play(t, b, exchange{"", ""}, exchange{"#", ""}, exchange{"# jump", ""}, exchange{"prior 0 -1 99999999999999 -99999999999999 0", "ok"}, exchange{"plan 5 2 2 10 10 0 1", "62"}, exchange{"emit 1 5 0 0 0 10 0 " + strings.Repeat("01", 32), "1"}, exchange{"#" + strings.Repeat("x", 499), ""})
}

// P43.2: scripts that are too long, and empty ones.
func TestRun(t *testing.T) {
	if l, f := bench.Run(strings.Repeat("clear\n", 299) + "clear"); len(l) != 300 || f != (api.Fault{}) {
		t.Errorf("Run of 300 lines: %d, %v", len(l), f)
	}
	if l, f := bench.Run(strings.Repeat("clear\n", 300)); l != nil || f != (api.Fault{Err: api.ErrLong, At: 300}) {
		t.Errorf("Run of 301 lines: %d, %v", len(l), f)
	}
	for _, s := range []string{"", "\n", "# nothing\n\n"} {
		if l, f := bench.Run(s); len(l) != 0 || f != (api.Fault{}) {
			t.Errorf("Run(%q) = %v, %v", s, l, f)
		}
	}
}

// P43.4, P43.5: scripts one behind the other, and lines with errors.
func TestScripts(t *testing.T) {
	lines := []string{"plan 5 2 2 10 10 2 1 9", "emit 1 5 0 0 0 10 0 01", "noise 3", "make 400", "gain 8", "find 1 0 2", "confirm 3", "track 1 5 1 0 0 9", "bits"}
	whole, f := bench.Run(strings.Join(lines, "\n"))
	if f != (api.Fault{}) || len(whole) != len(lines) {
		t.Fatalf("Run = %v, %v", whole, f)
	}
	wrong := []string{"plan 5 2 2 10 10 2", "emit 1 5 0 0 0 10 0 01", "emit 9 62 0 0 0 10 0 -", "make 5000", "level 9 9", "find 2 0 1", "find 1 0 17", "track 1 5 0 0 0 9", "track 9 5 1 64 0 9", "all 9999 1", "noise -5", "gain 1"}
	for i := range lines {
		var mixed []string
		for k, s := range lines {
			mixed = append(mixed, s)
			if k >= i {
				for _, w := range wrong {
					if k > 0 || !strings.HasPrefix(w, "emit 1") {
						mixed = append(mixed, w)
					}
				}
			}
		}
		got, f := bench.Run(strings.Join(mixed, "\n"))
		got = slices.DeleteFunc(got, func(s string) bool { return strings.HasPrefix(s, "error") })
		if !slices.Equal(got, whole) || f != (api.Fault{}) {
			t.Fatalf("with errors from line %d on: %v, %v, want %v", i, got, f, whole)
		}
	}
	b := bench.New()
	for i, s := range lines {
		if got, _ := b.Line(s); got != whole[i] {
			t.Errorf("%s: %s, want %s", s, got, whole[i])
		}
	}
}

// P43.3: results in memory of their own; DOC.md, R2: benches that are not valid.
func TestMemory(t *testing.T) {
	b := bench.New()
	if p := b.Plan(); !reflect.DeepEqual(p, api.Plan{Degree: 5, Over: 2, PerBit: 2, Words: 2, MinAmp: 1, MaxAmp: 1, Prns: []int{1}}) {
		t.Errorf("Plan = %v", p)
	}
	play(t, b, exchange{"make 3", "3"}, exchange{"gain 8", "bits 8 shift 0 lost 0"})
	b.Plan().Prns[0] = 9
	b.Levels()[0].I = 9
	if b.Plan().Prns[0] == 9 || b.Levels()[0].I == 9 {
		t.Error("results share memory with the bench")
	}
	var none *bench.Bench
	for _, b := range []*bench.Bench{none, {}} {
		for _, line := range []string{"", "clear", strings.Repeat("x", 501)} {
			if s, f := b.Line(line); s != "" || f != (api.Fault{Err: api.ErrNil}) {
				t.Errorf("Line = %s, %v", s, f)
			}
		}
		if !reflect.DeepEqual(b.Plan(), api.Plan{}) || b.Levels() != nil {
			t.Errorf("Plan, Levels = %v, %v", b.Plan(), b.Levels())
		}
	}
}

// P43.6: a sure code is found.
func TestSure(t *testing.T) {
	sures := 0
	for delay := range 40 {
		b := bench.New()
		play(t, b, exchange{"plan 7 2 2 100 100 5 77", "254"}, exchange{fmt.Sprintf("emit 77 %d 0 %d 9 100 1 0110", delay*6, delay), "1"}, exchange{"noise 99", "99"}, exchange{"make 1100", "1100"})
		b.Line("gain 8")
		if s, _ := b.Line("bound 77"); !strings.HasSuffix(s, "sure yes") {
			continue
		}
		sures++
		s, _ := b.Line("find 77 0 2")
		var at, power int
		var claimed string
		fmt.Sscanf(s, "at %d power %d claimed %s", &at, &power, &claimed)
		off := (at - delay*6 + 254) % 254
		if claimed != "yes" || off > 1 && off < 253 {
			t.Fatalf("find with the delay %d: %s", delay*6, s)
		}
	}
	if sures == 0 {
		t.Error("no code is sure")
	}
}
