package deeds_test

import (
	"math"
	"slices"
	"strings"
	"testing"

	"twinshaft/api"
	"twinshaft/deeds"
)

func exit(code int, all ...api.Deed) api.Outcome {
	return api.Outcome{Deeds: all, End: api.Ending{Kind: api.EndExit, Code: code}}
}

// judged holds Check and Text of an outcome against each other, and against what is wanted.
func judged(t *testing.T, x api.Outcome, want api.Errno) {
	t.Helper()
	if e := deeds.Check(x); e != want {
		t.Errorf("Check(%v): %v, not %v", x, e, want)
	}
	s, e := deeds.Text(x)
	if e != want || (s == "") != (want != api.OK) {
		t.Errorf("Text(%v): %q %v, not %v", x, s, e, want)
	}
}

func judgedByModel(t *testing.T, x api.Outcome) bool {
	t.Helper()
	want, ok := api.ErrArg, modelValid(x)
	if ok {
		want = api.OK
	}
	judged(t, x, want)
	return ok
}

// reads checks that a text is that of an outcome, as the model reads it.
func reads(t *testing.T, x api.Outcome) string {
	t.Helper()
	s, e := deeds.Text(x)
	back, ok := modelRead(s)
	if e != api.OK || !ok || back.End != x.End || !slices.Equal(back.Deeds, x.Deeds) {
		t.Errorf("Text(%v): %q %v, which reads %v %v", x, s, e, back, ok)
	}
	return s
}

// P14.2

func TestCheckTellsDeeds(t *testing.T) {
	valid := 0
	kinds := []int{math.MinInt, -2, -1, 0, 1, 2, 3, 4, 257, 258, 1<<32 + 1, math.MaxInt}
	numbers := []int{math.MinInt, -1 << 32, -257, -256, 511, 512, 1 << 32, 1<<32 + 1, math.MaxInt}
	for b := -5; b < 260; b++ {
		numbers = append(numbers, b)
	}
	for _, kind := range kinds {
		for _, b := range numbers {
			d := api.Deed{Kind: kind, B: b}
			if judgedByModel(t, exit(0, d)) {
				valid++
			}
			judgedByModel(t, exit(0, put(1), d, put(2)))
		}
	}
	if valid != 257+256 {
		t.Error(valid)
	}
}

func TestCheckTellsEndings(t *testing.T) {
	valid := 0
	kinds := []int{math.MinInt, -2, -1, 0, 1, 2, 3, 4, 5, 6, 257, 260, 1<<32 + 1, math.MaxInt}
	codes := []int{math.MinInt, -1 << 32, -256, 512, 1 << 32, 1<<32 + 1, math.MaxInt}
	for code := -5; code < 260; code++ {
		codes = append(codes, code)
	}
	for _, kind := range kinds {
		for _, code := range codes {
			end := api.Ending{Kind: kind, Code: code}
			if judgedByModel(t, api.Outcome{End: end}) {
				valid++
			}
			judgedByModel(t, api.Outcome{Deeds: []api.Deed{got(0)}, End: end})
		}
	}
	if valid != 256+2+1+1 {
		t.Error(valid)
	}
	judged(t, api.Outcome{End: api.Ending{Kind: api.EndUndef, Code: api.UndefUnset}}, api.ErrArg)
	judged(t, api.Outcome{}, api.ErrArg)
}

func TestCheckCountsDeeds(t *testing.T) {
	for many, want := range map[int]api.Errno{0: api.OK, 1: api.OK, most - 1: api.OK, most: api.OK, most + 1: api.ErrArg, 2 * most: api.ErrArg, 1 << 17: api.ErrArg} {
		for _, d := range []api.Deed{got(0), got(-1), put(255)} {
			x := exit(1, slices.Repeat([]api.Deed{d}, many)...)
			if e := deeds.Check(x); e != want {
				t.Error(many, d, e)
			}
			if s, e := deeds.Text(x); e != want || e != api.OK && s != "" {
				t.Error(many, d, len(s), e)
			}
		}
	}
}

func TestCheckLooksAtEachDeed(t *testing.T) {
	all := slices.Repeat([]api.Deed{put(0)}, 1000)
	for n := range all {
		for _, d := range []api.Deed{{}, got(-2), got(256), put(-1), put(256), {Kind: 3}} {
			all[n] = d
			if e := deeds.Check(exit(0, all...)); e != api.ErrArg {
				t.Error(n, d, e)
			}
		}
		all[n] = put(0)
	}
	if e := deeds.Check(exit(0, all...)); e != api.OK {
		t.Error(e)
	}
}

func TestNoByteIsGotAfterTheLast(t *testing.T) {
	for _, x := range [][]api.Deed{{got(-1)}, {got(-1), got(-1)}, {got(5), got(-1)}, {got(-1), put(5)}, {got(0), put(1), got(-1), put(2), got(-1), put(3), got(-1)}} {
		judged(t, exit(0, x...), api.OK)
	}
	for _, b := range []int{0, 1, 254, 255} {
		for _, x := range [][]api.Deed{{got(-1), got(b)}, {got(b), got(-1), got(b)}, {got(-1), got(-1), got(b)}, {got(-1), put(1), put(2), got(b)}, {got(-1), got(b), got(-1)}} {
			judged(t, exit(0, x...), api.ErrArg)
		}
	}
}

// each visits all lists of at most so many of some deeds.
func each(some []api.Deed, many int, visit func([]api.Deed)) {
	visit(nil)
	if many == 0 {
		return
	}
	for _, d := range some {
		each(some, many-1, func(rest []api.Deed) { visit(append([]api.Deed{d}, rest...)) })
	}
}

func TestCheckLikeTheModelOnShortOutcomes(t *testing.T) {
	met := map[bool]int{}
	each([]api.Deed{got(-1), got(0), put(0), got(255), put(-1), {}, got(256)}, 4, func(x []api.Deed) {
		met[judgedByModel(t, exit(0, x...))]++
		judged(t, exit(-1, x...), api.ErrArg)
	})
	if met[true] < 100 || met[false] < 1000 {
		t.Error(met)
	}
}

// TestSameOfAny has outcomes that are valid, and ones that are not.
func TestSameOfAny(t *testing.T) {
	var all []api.Outcome
	each([]api.Deed{got(1), put(1), got(-1), {Kind: 9, B: 999}}, 2, func(x []api.Deed) {
		for _, end := range []api.Ending{{}, {Kind: 1}, {Kind: 1, Code: 1}, {Kind: 4}, {Kind: 5, Code: 1}} {
			all = append(all, api.Outcome{Deeds: x, End: end})
		}
	})
	for n, a := range all {
		for m, b := range all {
			b.Deeds = slices.Clone(b.Deeds)
			if have := deeds.Same(a, b); have != (n == m) {
				t.Error(a, b, "same", have)
			}
			begins := len(a.Deeds) <= len(b.Deeds)
			for k := 0; begins && k < len(a.Deeds); k++ {
				begins = a.Deeds[k] == b.Deeds[k]
			}
			if have := deeds.Begins(a, b); have != begins {
				t.Error(a, b, "begins", have)
			}
		}
	}
}

func TestSameOfEmptyAndNil(t *testing.T) {
	a, b := api.Outcome{}, api.Outcome{Deeds: []api.Deed{}}
	if !deeds.Same(a, b) || !deeds.Same(b, a) || !deeds.Begins(a, b) || !deeds.Begins(b, a) {
		t.Error("nil and empty lists differ")
	}
}

func TestSameLooksAtEachDeed(t *testing.T) {
	all := slices.Repeat([]api.Deed{put(0)}, most+10)
	a := exit(0, all...)
	for _, n := range []int{0, 1, most - 1, most, most + 9} {
		b := exit(0, slices.Clone(all)...)
		if !deeds.Same(a, b) || !deeds.Begins(a, b) {
			t.Error(n, "differ")
		}
		b.Deeds[n].B = 1
		if deeds.Same(a, b) || deeds.Begins(a, b) {
			t.Error(n, "are the same")
		}
		b.Deeds[n] = got(0)
		if deeds.Same(a, b) || deeds.Begins(a, b) {
			t.Error(n, "are the same")
		}
		if part := exit(0, all[:n]...); !deeds.Begins(part, a) || deeds.Begins(a, part) || deeds.Same(a, part) || !deeds.Begins(part, b) {
			t.Error(n, "part")
		}
	}
}

func TestNothingBehindAListIsRead(t *testing.T) {
	whole := []api.Deed{got(7), put(1), put(-1), got(256)}
	a := exit(0, whole[:1]...)
	a.Deeds = whole[:1:4]
	b := api.Outcome{Deeds: whole[:2:4], End: a.End}
	if deeds.Begins(b, a) || deeds.Same(a, b) || !deeds.Begins(a, b) {
		t.Error("what is behind a list is read")
	}
	judged(t, a, api.OK)
	judged(t, b, api.OK)
	if s, _ := deeds.Text(b); s != "+7 -1 exit 0" {
		t.Error(s)
	}
	if !slices.Equal(whole, []api.Deed{got(7), put(1), put(-1), got(256)}) {
		t.Error(whole)
	}
}

func TestTextOfEachDeed(t *testing.T) {
	for _, d := range validDeeds() {
		reads(t, exit(0, d))
		reads(t, exit(0, put(10), d, put(200)))
	}
	for _, end := range endings() {
		reads(t, api.Outcome{End: end})
		reads(t, api.Outcome{Deeds: []api.Deed{got(-1)}, End: end})
	}
}

func TestTextsWrittenOut(t *testing.T) {
	for want, x := range map[string]api.Outcome{
		"exit 0":               exit(0),
		"exit 255":             exit(255),
		"trap 2":               {End: api.Ending{Kind: api.EndTrap, Code: api.TrapReach}},
		"fuel":                 {End: api.Ending{Kind: api.EndFuel}},
		"+0 -0 exit 10":        exit(10, got(0), put(0)),
		"+-1 +-1 -1 exit 1":    exit(1, got(-1), got(-1), put(1)),
		"-255 +100 trap 1":     {Deeds: []api.Deed{put(255), got(100)}, End: api.Ending{Kind: api.EndTrap, Code: api.TrapDiv}},
		"+255 stack":           {Deeds: []api.Deed{got(255)}, End: api.Ending{Kind: api.EndStack}},
		"-1 -2 -3 -4 -5 fuel":  {Deeds: []api.Deed{put(1), put(2), put(3), put(4), put(5)}, End: api.Ending{Kind: api.EndFuel}},
		"+3 -3 -2 -1 exit 0":   exit(0, got(3), put(3), put(2), put(1)),
		"+65 -65 exit 65":      exit(65, got(65), put(65)),
		"+12 +34 +-1 -9 stack": {Deeds: []api.Deed{got(12), got(34), got(-1), put(9)}, End: api.Ending{Kind: api.EndStack}},
	} {
		if s, e := deeds.Text(x); s != want || e != api.OK {
			t.Errorf("%q %v, not %q", s, e, want)
		}
	}
}

func TestTextOfTheGreatest(t *testing.T) {
	s, e := deeds.Text(exit(255, slices.Repeat([]api.Deed{put(255)}, most)...))
	if want := strings.Repeat("-255 ", most) + "exit 255"; s != want || e != api.OK {
		t.Error(len(s), e)
	}
}

func TestArgumentsAreLeft(t *testing.T) {
	x := exit(3, got(1), put(2), got(-1))
	before := slices.Clone(x.Deeds)
	deeds.Check(x)
	deeds.Text(x)
	deeds.Same(x, x)
	deeds.Begins(x, x)
	if !slices.Equal(x.Deeds, before) || x.End != (api.Ending{Kind: api.EndExit, Code: 3}) {
		t.Error(x)
	}
}

// P14.3

// TestOutcomesThatDifferHaveDifferentTexts has all short outcomes of some deeds whose texts are easily taken for one another.
func TestOutcomesThatDifferHaveDifferentTexts(t *testing.T) {
	texts := map[string]api.Outcome{}
	some := []api.Deed{got(-1), got(1), put(1), got(11), put(11), put(0)}
	each(some, 4, func(all []api.Deed) {
		for _, end := range []api.Ending{{Kind: 1}, {Kind: 1, Code: 1}, {Kind: 1, Code: 11}, {Kind: 2, Code: 1}, {Kind: 2, Code: 2}, {Kind: 3}, {Kind: 4}} {
			x := api.Outcome{Deeds: all, End: end}
			if !modelValid(x) {
				continue
			}
			s := reads(t, x)
			if other, ok := texts[s]; ok && !deeds.Same(other, x) {
				t.Errorf("%v and %v are both %q", other, x, s)
			}
			texts[s] = x
		}
	})
	if len(texts) < 5000 {
		t.Error(len(texts))
	}
}

func TestMixedOutcomesAreRead(t *testing.T) {
	valid, ends := validDeeds(), endings()
	for n := range 2000 {
		m := mixed(n)
		x := api.Outcome{End: ends[m.below(len(ends))]}
		for range m.below(30) {
			x.Deeds = append(x.Deeds, valid[m.below(len(valid))])
		}
		if judgedByModel(t, x) {
			reads(t, x)
		}
	}
}

// The chapter's examples

func TestExamples(t *testing.T) {
	x := deeds.New([]byte{7, 8})
	wantGot(t, x, 7)
	wantPut(t, x, -1)
	wantGot(t, x, 8)
	wantGot(t, x, -1)
	holds(t, x, 0, got(7), put(255), got(8), got(-1))
	for want, o := range map[string]api.Outcome{
		"+7 -255 +8 +-1 exit 3": exit(3, x.Deeds()...),
		"trap 1":                {End: api.Ending{Kind: api.EndTrap, Code: api.TrapDiv}},
		"stack":                 {End: api.Ending{Kind: api.EndStack}},
	} {
		if s, e := deeds.Text(o); s != want || e != api.OK {
			t.Errorf("%q %v, not %q", s, e, want)
		}
	}
	for _, o := range []api.Outcome{{Deeds: []api.Deed{got(-1), got(1)}, End: api.Ending{Kind: api.EndFuel}}, exit(256), exit(0, put(-1))} {
		judged(t, o, api.ErrArg)
	}
	if !deeds.Begins(exit(0, got(7)), exit(0, got(7), put(1))) || deeds.Same(exit(0), exit(1)) {
		t.Error("begins, same")
	}
}
