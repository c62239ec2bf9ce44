package sure_test

import (
	"math"
	"slices"
	"testing"

	"twinshaft/api"
	"twinshaft/flow"
	"twinshaft/op"
	"twinshaft/sure"
)

func set(r int) api.Ins { return api.Ins{Op: api.OpConst, A: r, N: 5} }

func add(to, one, two int) api.Ins { return api.Ins{Op: api.OpAdd, A: to, B: one, C: two} }

func store(one, two int) api.Ins { return api.Ins{Op: api.OpStore, A: one, B: two, N: 8} }

func call(to int, args ...int) api.Ins { return api.Ins{Op: api.OpCall, A: to, Args: args} }

func jmp(place int) api.Ins { return api.Ins{Op: api.OpJmp, N: place} }

func brz(r, place int) api.Ins { return api.Ins{Op: api.OpBrz, A: r, N: place} }

func ret(r int) api.Ins { return api.Ins{Op: api.OpRet, A: r} }

const all = uint64(math.MaxUint64)

// three is the chapter's code; its places are 0, 4, 14.
func three() []api.Ins { return []api.Ins{brz(0, 14), set(1), ret(1)} }

// refuses wants both to refuse, with nothing beside the error.
func refuses(t *testing.T, l []api.Ins, params int, want api.Errno) {
	t.Helper()
	if a, e := sure.Masks(l, params); e != want || len(a) != 0 {
		t.Errorf("Masks(%.400v, %d) is %v %v, not %v", l, params, a, e, want)
	}
	if n, r, e := sure.Unset(l, params); e != want || n != 0 || r != 0 {
		t.Errorf("Unset(%.400v, %d) is %d %d %v, not %v", l, params, n, r, e, want)
	}
}

func masksAre(t *testing.T, l []api.Ins, params int, want ...uint64) {
	t.Helper()
	if a, e := sure.Masks(l, params); e != api.OK || !slices.Equal(a, want) {
		t.Errorf("Masks(%v, %d) is %x %v, not %x", l, params, a, e, want)
	}
}

func unsetIs(t *testing.T, l []api.Ins, params, wantN, wantR int) {
	t.Helper()
	if n, r, e := sure.Unset(l, params); e != api.OK || n != wantN || r != wantR {
		t.Errorf("Unset(%v, %d) is %d %d %v, not %d %d", l, params, n, r, e, wantN, wantR)
	}
}

func TestTheExamples(t *testing.T) {
	masksAre(t, three(), 1, 1, 1, 1)
	unsetIs(t, three(), 1, 2, 1)
	unsetIs(t, three(), 2, -1, -1)
	unsetIs(t, three(), 0, 0, 0)
	short := []api.Ins{{}, ret(0)}
	masksAre(t, short, 0, 0, 0)
	unsetIs(t, short, 0, 1, 0)
	refuses(t, three(), 9, api.ErrArg)
	refuses(t, nil, 0, api.ErrForm)
}

// P11.1: errors

func TestParamsOutOfBounds(t *testing.T) {
	for _, params := range []int{-1, 9, 10, 63, 64, 65, 256, 1 << 32, -1 << 32, math.MaxInt, math.MinInt} {
		for _, l := range [][]api.Ins{three(), nil, {ret(0)}, {{}}, {jmp(1)}, {{Op: 33}}, {ret(64)}, slices.Repeat([]api.Ins{{}}, 4097)} {
			refuses(t, l, params, api.ErrArg)
		}
	}
}

func TestErrorsOfFlow(t *testing.T) {
	nine := make([]int, 9)
	for want, codes := range map[api.Errno][][]api.Ins{
		api.ErrForm:    {nil, {}, {{}}, {set(0)}, {ret(0), brz(0, 0)}, slices.Repeat([]api.Ins{{}}, 4096)},
		api.ErrTarget:  {{jmp(1)}, {brz(0, 5), ret(0)}, {ret(0), jmp(1)}, {set(0), jmp(4095)}, {brz(9, 3)}},
		api.ErrIllegal: {{{Op: 33}}, {{Op: -1}}, {ret(0), {Op: math.MaxInt}}, {{Op: math.MinInt}, ret(64)}},
		api.ErrArg:     {{{N: 1}, ret(0)}, {ret(0), {Op: api.OpRet, B: 1}}, {{Op: api.OpExit, Args: []int{0}}}},
		api.ErrLong:    {{call(0, nine...), ret(0)}, append(slices.Repeat([]api.Ins{{}}, 4095), ret(0))},
		api.ErrRange:   {{ret(64)}, {ret(-1)}, {set(64), ret(0)}, {set(-1), ret(0)}, {jmp(4096)}, {jmp(-1)}, {add(0, 1, math.MaxInt), ret(0)}, {call(0, 1, math.MinInt), ret(0)}},
	} {
		for _, l := range codes {
			for params := range 9 {
				refuses(t, l, params, want)
			}
		}
	}
}

// TestErrorsAreThoseOfFlow has instructions whose fields are good or not.
func TestErrorsAreThoseOfFlow(t *testing.T) {
	m := mixed(17)
	numbers := []int{0, 0, 0, 0, 1, 2, 3, 4, 8, 63, 64, -1, 4096, math.MaxInt, math.MinInt}
	number := func() int { return numbers[m.below(len(numbers))] }
	met := map[api.Errno]int{}
	for range 60000 {
		l := make([]api.Ins, m.below(4))
		for n := range l {
			l[n] = api.Ins{Op: m.below(api.Ops + 1)}
			for _, field := range []*int{&l[n].A, &l[n].B, &l[n].C, &l[n].N} {
				if m.below(3) == 0 {
					*field = number()
				}
			}
			if l[n].Op == api.OpCall || m.below(20) == 0 {
				l[n].Args = slices.Repeat([]int{number()}, m.below(10))
			}
		}
		want := flow.Check(l)
		met[want]++
		if want != api.OK {
			refuses(t, l, m.below(9), want)
		} else if masks, e := sure.Masks(l, m.below(9)); e != api.OK || len(masks) != len(l) {
			t.Errorf("Masks(%v): %v %v", l, masks, e)
		}
	}
	for _, e := range []api.Errno{api.OK, api.ErrForm, api.ErrTarget, api.ErrIllegal, api.ErrArg, api.ErrLong, api.ErrRange} {
		if met[e] < 50 {
			t.Errorf("%v is met %d times", e, met[e])
		}
	}
}

// P11.1: masks

func TestParamsAreSure(t *testing.T) {
	for params, want := range []uint64{0, 1, 3, 7, 15, 31, 63, 127, 255} {
		masksAre(t, []api.Ins{ret(0)}, params, want)
		masksAre(t, []api.Ins{{}, {}, ret(63)}, params, want, want, want)
		masksAre(t, []api.Ins{set(3), jmp(0)}, params, want, want|8)
		masksAre(t, []api.Ins{jmp(0), ret(0)}, params, want, all)
	}
}

func TestEachRegisterHasItsBit(t *testing.T) {
	var l []api.Ins
	var want []uint64
	written := uint64(0)
	for r := range 64 {
		masksAre(t, []api.Ins{set(r), ret(0)}, 0, 0, 1<<r)
		masksAre(t, []api.Ins{set(r), ret(0)}, 8, 255, 255|1<<r)
		l, want = append(l, set(r)), append(want, written)
		written |= 1 << r
	}
	if written != all {
		t.Fatalf("%x", written)
	}
	masksAre(t, append(l, api.Ins{}, ret(0)), 0, append(want, all, all)...)
	slices.Reverse(l)
	for n := range want {
		want[n] = ^(all >> n)
	}
	masksAre(t, append(l, api.Ins{}, ret(0)), 0, append(want, all, all)...)
}

// operation is an instruction of each operation, different registers in all its fields, and what it writes and reads by the table of layer 6.
type operation struct {
	i      api.Ins
	writes int
	reads  []int
}

func operations() []operation {
	out := []operation{
		{api.Ins{}, -1, nil},
		{api.Ins{Op: api.OpConst, A: 5, N: 7}, 5, nil},
		{api.Ins{Op: api.OpMov, A: 5, B: 6}, 5, []int{6}},
		{api.Ins{Op: api.OpExt, A: 5, B: 6, N: 4}, 5, []int{6}},
		{api.Ins{Op: api.OpLoad, A: 5, B: 6, N: 7}, 5, []int{6}},
		{api.Ins{Op: api.OpStore, A: 6, B: 5, N: 8}, -1, []int{6, 5}},
		{api.Ins{Op: api.OpLea, A: 5, N: 7}, 5, nil},
		{api.Ins{Op: api.OpData, A: 5, N: 7}, 5, nil},
		{api.Ins{Op: api.OpJmp, N: 0}, -1, nil},
		{api.Ins{Op: api.OpBrz, A: 5, N: 0}, -1, []int{5}},
		{api.Ins{Op: api.OpBrnz, A: 5, N: 0}, -1, []int{5}},
		{api.Ins{Op: api.OpCall, A: 5, N: 4}, 5, nil},
		{api.Ins{Op: api.OpCall, A: 5, N: 4, Args: []int{9, 3, 60, 9, 2, 63, 3, 1}}, 5, []int{9, 3, 60, 9, 2, 63, 3, 1}},
		{api.Ins{Op: api.OpRet, A: 5}, -1, []int{5}},
		{api.Ins{Op: api.OpGetb, A: 5}, 5, nil},
		{api.Ins{Op: api.OpPutb, A: 5}, -1, []int{5}},
		{api.Ins{Op: api.OpExit, A: 5}, -1, []int{5}},
	}
	for o := api.OpAdd; o <= api.OpNe; o++ {
		out = append(out, operation{api.Ins{Op: o, A: 5, B: 7, C: 6}, 5, []int{7, 6}})
	}
	return out
}

// hasBehind tells whether an instruction goes on to the next one.
func hasBehind(i api.Ins) bool {
	return i.Op != api.OpJmp && i.Op != api.OpRet && i.Op != api.OpExit
}

func TestWhatEachOperationWrites(t *testing.T) {
	for _, o := range operations() {
		behind := uint64(0)
		if o.writes >= 0 {
			behind = 1 << o.writes
		}
		if !hasBehind(o.i) {
			behind = all
		}
		masksAre(t, []api.Ins{o.i, ret(0)}, 0, 0, behind)
		masksAre(t, []api.Ins{o.i, {}, ret(0)}, 2, 3, 3|behind, 3|behind)
	}
}

// drawn is a draft and its masks with no params.
type drawn struct {
	draft []api.Ins
	masks []uint64
}

func drawings() []drawn {
	return []drawn{
		// One behind the other: it is sure behind what writes it, not at it.
		{[]api.Ins{set(0), add(1, 0, 0), set(0), ret(1)}, []uint64{0, 1, 3, 3}},
		// On one of two ways, on the other, on both, on neither.
		{[]api.Ins{brz(0, 2), set(1), ret(1)}, []uint64{0, 0, 0}},
		{[]api.Ins{brz(0, 3), set(1), jmp(4), set(2), ret(1)}, []uint64{0, 0, 2, 0, 0}},
		{[]api.Ins{brz(0, 3), set(1), jmp(4), set(1), ret(1)}, []uint64{0, 0, 2, 0, 2}},
		{[]api.Ins{set(1), brz(0, 4), {}, jmp(4), ret(1)}, []uint64{0, 2, 2, 2, 2}},
		// Two of three ways to one.
		{[]api.Ins{brz(0, 4), brz(0, 6), set(1), jmp(7), set(1), jmp(7), {}, ret(1)}, []uint64{0, 0, 0, 2, 0, 2, 0, 0}},
		// A branch to the next one is one way only.
		{[]api.Ins{set(3), brz(0, 2), ret(0)}, []uint64{0, 8, 8}},
		// A loop: what was written before it is sure in it, what it writes is not sure at its beginning.
		{[]api.Ins{set(0), set(1), brz(0, 1), ret(1)}, []uint64{0, 1, 3, 3}},
		{[]api.Ins{set(0), {}, set(1), brz(0, 1), ret(1)}, []uint64{0, 1, 1, 3, 3}},
		{[]api.Ins{{}, set(2), jmp(0)}, []uint64{0, 0, 4}},
		// A way back from behind into the middle, with more and with less.
		{[]api.Ins{set(0), jmp(4), set(1), ret(1), set(2), jmp(2)}, []uint64{0, 1, 5, 7, 1, 5}},
		{[]api.Ins{brz(0, 4), set(1), {}, ret(1), set(2), jmp(2)}, []uint64{0, 0, 0, 0, 0, 4}},
		{[]api.Ins{set(1), brz(0, 5), set(2), {}, ret(1), jmp(3)}, []uint64{0, 2, 2, 2, 2, 2}},
		// Two ways to one that is visited ahead of the second of them.
		{[]api.Ins{jmp(3), {}, ret(5), brz(0, 6), set(5), jmp(1), jmp(1)}, []uint64{0, 0, 0, 0, 0, 32, 0}},
		// Two loops, one within the other: what is lost behind is lost before.
		{[]api.Ins{brz(0, 2), set(1), {}, set(2), {}, brz(0, 4), brz(0, 2), ret(0)}, []uint64{0, 0, 0, 0, 4, 4, 4, 4}},
		// A jump to itself and a branch to itself.
		{[]api.Ins{set(7), jmp(1)}, []uint64{0, 128}},
		{[]api.Ins{set(7), brz(7, 1), ret(7)}, []uint64{0, 128, 128}},
		{[]api.Ins{brz(0, 0), ret(0)}, []uint64{0, 0}},
		// What is not reached has all, and takes nothing from what it goes to.
		{[]api.Ins{jmp(2), ret(7), set(0), ret(0)}, []uint64{0, all, 0, 1}},
		{[]api.Ins{ret(0), set(4), jmp(1)}, []uint64{0, all, all}},
		{[]api.Ins{set(0), {}, ret(0), {}, jmp(1)}, []uint64{0, 1, 1, all, all}},
		{[]api.Ins{set(0), jmp(3), set(1), ret(0)}, []uint64{0, 1, all, 1}},
		{[]api.Ins{set(9), jmp(4), jmp(3), jmp(2), ret(0)}, []uint64{0, 512, all, all, 512}},
		// A call writes, but does not write what it reads.
		{[]api.Ins{call(1, 2), call(2, 1), ret(0)}, []uint64{0, 2, 6}},
	}
}

func TestDrawings(t *testing.T) {
	for _, d := range drawings() {
		masksAre(t, aimed(d.draft), 0, d.masks...)
		n, r := unsetOf(d.draft, d.masks)
		unsetIs(t, aimed(d.draft), 0, n, r)
		for n := range d.masks {
			d.masks[n] |= 15
		}
		masksAre(t, aimed(d.draft), 4, d.masks...)
	}
}

// P11.2

// TestWhatEachOperationReads leaves out one register after the other of those that are written before.
func TestWhatEachOperationReads(t *testing.T) {
	for _, o := range operations() {
		for left := -1; left < 64; left++ {
			var l []api.Ins
			for r := range 64 {
				if r != left {
					l = append(l, set(r))
				}
			}
			wantN, wantR := -1, -1
			if slices.Contains(o.reads, left) {
				wantN, wantR = len(l), left
			}
			l = append(l, o.i)
			if hasBehind(o.i) {
				l = append(l, jmp(0))
			}
			unsetIs(t, l, 0, wantN, wantR)
		}
	}
}

func TestTheFirstThatIsRead(t *testing.T) {
	for _, o := range operations() {
		for many := range len(o.reads) + 1 {
			var l []api.Ins
			for _, r := range o.reads[:many] {
				l = append(l, set(r))
			}
			wantN, wantR := -1, -1
			for _, r := range o.reads[many:] {
				if wantN == -1 && !slices.Contains(o.reads[:many], r) {
					wantN, wantR = many, r
				}
			}
			l = append(l, o.i)
			if hasBehind(o.i) {
				l = append(l, jmp(0))
			}
			unsetIs(t, l, 0, wantN, wantR)
		}
	}
}

func TestUnsetOfParams(t *testing.T) {
	for params := range 9 {
		for r := range 64 {
			n, register := 0, r
			if r < params {
				n, register = -1, -1
			}
			unsetIs(t, []api.Ins{ret(r)}, params, n, register)
		}
		unsetIs(t, []api.Ins{call(0, 0, 1, 2, 3, 4, 5, 6, 7), jmp(0)}, params, []int{0, -1}[params/8], []int{params, -1}[params/8])
		unsetIs(t, []api.Ins{call(0, 7, 6, 5, 4, 3, 2, 1, 0), jmp(0)}, params, []int{0, -1}[params/8], []int{7, -1}[params/8])
	}
}

func TestUnset(t *testing.T) {
	for _, x := range []struct {
		draft []api.Ins
		n, r  int
	}{
		// An instruction reads before it writes.
		{[]api.Ins{add(0, 0, 0), ret(0)}, 0, 0},
		{[]api.Ins{call(3, 3), ret(3)}, 0, 3},
		{[]api.Ins{{Op: api.OpMov, A: 1, B: 1}, jmp(0)}, 0, 1},
		{[]api.Ins{set(1), {Op: api.OpMov, A: 1, B: 1}, jmp(0)}, -1, -1},
		// The first one by its number, not on a path.
		{[]api.Ins{jmp(3), {Op: api.OpPutb, A: 1}, ret(0), {Op: api.OpPutb, A: 2}, jmp(1)}, 1, 1},
		{[]api.Ins{jmp(2), ret(9), {Op: api.OpPutb, A: 2}, ret(0)}, 2, 2},
		// The register that is read first, not the lowest one.
		{[]api.Ins{add(0, 9, 1), ret(0)}, 0, 9},
		{[]api.Ins{set(9), add(0, 9, 1), ret(0)}, 1, 1},
		{[]api.Ins{store(8, 2), jmp(0)}, 0, 8},
		{[]api.Ins{set(5), set(3), call(0, 5, 9, 3, 2), jmp(0)}, 2, 9},
		// What is written behind is not written before, but on the way around.
		{[]api.Ins{set(0), brz(1, 3), set(1), brz(0, 1), ret(0)}, 1, 1},
		{[]api.Ins{jmp(3), {Op: api.OpPutb, A: 1}, ret(1), set(1), jmp(1)}, -1, -1},
		// What is not reached reads what it likes.
		{[]api.Ins{jmp(2), ret(63), set(0), ret(0)}, -1, -1},
		{[]api.Ins{{Op: api.OpGetb}, {Op: api.OpExit}, store(8, 9), jmp(2)}, -1, -1},
		// A branch reads, whichever way it goes.
		{[]api.Ins{brz(4, 1), jmp(0)}, 0, 4},
		{[]api.Ins{set(0), {Op: api.OpBrnz, A: 4}, ret(0)}, 1, 4},
	} {
		unsetIs(t, aimed(x.draft), 0, x.n, x.r)
	}
}

func TestLongStraightCode(t *testing.T) {
	l := append(slices.Repeat([]api.Ins{{}}, 4094), ret(63))
	unsetIs(t, l, 8, 4094, 63)
	masks, e := sure.Masks(l, 8)
	if e != api.OK || len(masks) != 4095 || slices.Max(masks) != 255 || slices.Min(masks) != 255 {
		t.Error(e, masks)
	}
	l = slices.Concat([]api.Ins{set(63)}, slices.Repeat([]api.Ins{{}}, 4084), []api.Ins{ret(63)})
	unsetIs(t, l, 0, -1, -1)
}

// Rules

func TestArgumentsAreLeftAsTheyAre(t *testing.T) {
	args := []int{1, 2, 3, 4}
	room := []api.Ins{set(0), {Op: api.OpCall, Args: args[:2]}, brz(0, 0), {}, jmp(0), ret(1), {Op: 77}, {Op: api.OpJmp, N: 9}}
	held := slices.Clone(room)
	for _, l := range [][]api.Ins{room[:6], room[:3], room} {
		for params := -1; params < 10; params += 5 {
			sure.Masks(l, params)
			sure.Unset(l, params)
		}
	}
	if !slices.EqualFunc(room, held, op.Same) || !slices.Equal(args, []int{1, 2, 3, 4}) {
		t.Error(room, args)
	}
}

func TestAnswersAreNew(t *testing.T) {
	l := []api.Ins{set(2), jmp(13), ret(2)}
	for range 3 {
		masksAre(t, l, 1, 1, 5, 5)
		masks, _ := sure.Masks(l, 1)
		clear(masks[:cap(masks)])
		unsetIs(t, l, 1, -1, -1)
		refuses(t, l[:1], 1, api.ErrForm)
	}
}
