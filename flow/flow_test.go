package flow_test

import (
	"math"
	"slices"
	"strings"
	"testing"

	"twinshaft/api"
	"twinshaft/flow"
	"twinshaft/op"
)

func ins(o int) api.Ins { return api.Ins{Op: o} }

func jmp(place int) api.Ins { return api.Ins{Op: api.OpJmp, N: place} }

func brz(place int) api.Ins { return api.Ins{Op: api.OpBrz, N: place} }

func brnz(place int) api.Ins { return api.Ins{Op: api.OpBrnz, N: place} }

func ret() api.Ins { return ins(api.OpRet) }

func nop() api.Ins { return ins(api.OpNop) }

func nops(many int) []api.Ins { return slices.Repeat([]api.Ins{nop()}, many) }

// six is the chapter's code; its places are 0, 10, 14, 15, 18, 20.
func six() []api.Ins {
	return []api.Ins{ins(api.OpConst), brz(14), nop(), jmp(0), ret(), ret()}
}

// follows is what follows each instruction, by what a text has for each: numbers with a letter each, 0 to 9.
func follows(text string) [][]int {
	var out [][]int
	for one := range strings.SplitSeq(text, " ") {
		var all []int
		for _, digit := range strings.Trim(one, "-") {
			all = append(all, int(digit-'0'))
		}
		out = append(out, all)
	}
	return out
}

func sameLists(a, b [][]int) bool { return slices.EqualFunc(a, b, slices.Equal) }

func sameBlocks(a, b []api.Block) bool {
	return slices.EqualFunc(a, b, func(x, y api.Block) bool {
		return x.From == y.From && x.To == y.To && slices.Equal(x.Next, y.Next)
	})
}

// refuses wants all four to refuse, with nothing beside the error.
func refuses(t *testing.T, l []api.Ins, want api.Errno) {
	t.Helper()
	if e := flow.Check(l); e != want {
		t.Errorf("Check(%.400v) is %v, not %v", l, e, want)
	}
	if a, e := flow.Next(l); e != want || len(a) != 0 {
		t.Errorf("Next(%.400v) is %v %v, not %v", l, a, e, want)
	}
	if a, e := flow.Blocks(l); e != want || len(a) != 0 {
		t.Errorf("Blocks(%.400v) is %v %v, not %v", l, a, e, want)
	}
	if a, e := flow.Reached(l); e != want || len(a) != 0 {
		t.Errorf("Reached(%.400v) is %v %v, not %v", l, a, e, want)
	}
}

// P10.1

func TestCheckOfTheExamples(t *testing.T) {
	refuses(t, nil, api.ErrForm)
	refuses(t, []api.Ins{}, api.ErrForm)
	refuses(t, nops(1), api.ErrForm)
	refuses(t, []api.Ins{jmp(1)}, api.ErrTarget)
	for _, l := range [][]api.Ins{{jmp(0)}, six()} {
		if e := flow.Check(l); e != api.OK {
			t.Errorf("Check(%v) is %v", l, e)
		}
	}
}

func TestCheckReturnsTheErrorOfJoin(t *testing.T) {
	nine := make([]int, 9)
	for want, all := range map[api.Errno][]api.Ins{
		api.ErrIllegal: {ins(33), ins(-1), ins(math.MaxInt), ins(math.MinInt)},
		api.ErrArg:     {{N: 1}, {Op: api.OpRet, B: 1}, {Op: api.OpJmp, A: 1}, {Op: api.OpExit, Args: []int{0}}, {Op: api.OpBrz, N: 4096, C: -1}},
		api.ErrLong:    {{Op: api.OpCall, Args: nine}},
		api.ErrRange:   {{Op: api.OpRet, A: 64}, {Op: api.OpExit, A: -1}, jmp(4096), jmp(-1), brz(math.MinInt), brnz(math.MaxInt), {Op: api.OpLoad}, {Op: api.OpCall, N: 64}},
	} {
		for _, wrong := range all {
			refuses(t, []api.Ins{wrong}, want)
			refuses(t, []api.Ins{ret(), wrong}, want)
			refuses(t, []api.Ins{wrong, ret()}, want)
			refuses(t, []api.Ins{jmp(1), wrong, nop()}, want)
			refuses(t, []api.Ins{wrong, ins(40), {N: 1}, {Op: api.OpCall, Args: nine}, jmp(4096)}, want)
			refuses(t, append(nops(5000), wrong), want)
		}
	}
}

func TestCheckOfLongCode(t *testing.T) {
	if e := flow.Check(append(nops(4094), ret())); e != api.OK {
		t.Error(e)
	}
	refuses(t, append(nops(4095), ret()), api.ErrLong)
	refuses(t, nops(4097), api.ErrLong)
	refuses(t, nops(4096), api.ErrForm)
	refuses(t, append(nops(4095), jmp(4095)), api.ErrLong)
	refuses(t, append([]api.Ins{jmp(1)}, nops(4094)...), api.ErrLong)
	refuses(t, append([]api.Ins{jmp(1)}, nops(4093)...), api.ErrTarget)
	refuses(t, append([]api.Ins{jmp(4095)}, nops(4093)...), api.ErrForm)
	refuses(t, slices.Concat([]api.Ins{jmp(4095)}, nops(4091), []api.Ins{ret()}), api.ErrTarget)
	l := slices.Concat([]api.Ins{jmp(4094)}, nops(4091), []api.Ins{ret()})
	if a, e := flow.Reached(l); e != api.OK || len(a) != 4093 || !a[0] || a[1] || a[4091] || !a[4092] {
		t.Error(a, e)
	}
}

// oneOfEach has an instruction of each operation but those with a target, all fields different where they may be, and the number of bytes that it has by the chapter of code.
func oneOfEach() ([]api.Ins, []int) {
	var l []api.Ins
	var lengths []int
	put := func(length int, i api.Ins) {
		l, lengths = append(l, i), append(lengths, length)
	}
	put(1, nop())
	put(10, api.Ins{Op: api.OpConst, A: 5, N: 17})
	put(3, api.Ins{Op: api.OpMov, A: 5, B: 6})
	for o := api.OpAdd; o <= api.OpNe; o++ {
		put(4, api.Ins{Op: o, A: 5, B: 6, C: 7})
	}
	put(4, api.Ins{Op: api.OpExt, A: 5, B: 6, N: 4})
	put(4, api.Ins{Op: api.OpLoad, A: 5, B: 6, N: 7})
	put(4, api.Ins{Op: api.OpStore, A: 5, B: 6, N: 8})
	put(4, api.Ins{Op: api.OpLea, A: 5, N: 1})
	put(4, api.Ins{Op: api.OpData, A: 5, N: 1})
	put(4, api.Ins{Op: api.OpCall, A: 5, N: 9})
	put(7, api.Ins{Op: api.OpCall, A: 5, N: 9, Args: []int{6, 7, 8}})
	put(2, api.Ins{Op: api.OpGetb, A: 5})
	put(2, api.Ins{Op: api.OpPutb, A: 5})
	put(2, api.Ins{Op: api.OpRet, A: 5})
	put(2, api.Ins{Op: api.OpExit, A: 5})
	return l, lengths
}

func TestCheckOfEveryTarget(t *testing.T) {
	all, lengths := oneOfEach()
	for _, branch := range []func(int) api.Ins{jmp, brz, brnz} {
		first := 4
		if branch(0).Op == api.OpJmp {
			first = 3
		}
		numbers := map[int]int{0: 0}
		end := first
		for n, length := range lengths {
			numbers[end] = 1 + n
			end += length
		}
		for place := range end + 20 {
			l := append([]api.Ins{branch(place)}, all...)
			number, ok := numbers[place]
			if !ok {
				refuses(t, l, api.ErrTarget)
				continue
			}
			a, e := flow.Next(l)
			if e != api.OK || !slices.Contains(a[0], number) {
				t.Errorf("%v to %d: %v %v", l[0], place, a, e)
			}
		}
	}
}

func TestCheckOfTargetsOnTheWay(t *testing.T) {
	for _, l := range [][]api.Ins{
		{jmp(1), nop()}, {ret(), jmp(1)}, {ret(), brz(1), ret()}, {jmp(0), jmp(6)}, {ret(), jmp(0), brnz(2), brz(3), ret()},
		{jmp(3), brz(4), nop()}, {brz(8), brz(8)}, {brz(0), brz(0), brz(1)}, {jmp(4095)}, {jmp(2), {Op: api.OpConst}},
	} {
		refuses(t, l, api.ErrTarget)
	}
}

func TestCheckOfTheLastOne(t *testing.T) {
	all, _ := oneOfEach()
	for _, last := range append(all, jmp(0), brz(0), brnz(0)) {
		for _, l := range [][]api.Ins{{last}, {nop(), last}, {ret(), last}, six()[:1]} {
			l[len(l)-1] = last
			switch last.Op {
			case api.OpJmp, api.OpRet, api.OpExit:
				if e := flow.Check(l); e != api.OK {
					t.Errorf("Check(%v) is %v", l, e)
				}
			default:
				refuses(t, l, api.ErrForm)
			}
		}
	}
}

// P10.2

func TestTheExample(t *testing.T) {
	if a, e := flow.Next(six()); e != api.OK || !sameLists(a, follows("1 2 3 0 - -")) {
		t.Error(a, e)
	}
	blocks := []api.Block{{From: 0, To: 2, Next: []int{1}}, {From: 2, To: 4, Next: []int{0}}, {From: 4, To: 5}, {From: 5, To: 6}}
	if a, e := flow.Blocks(six()); e != api.OK || !sameBlocks(a, blocks) {
		t.Error(a, e)
	}
	if a, e := flow.Reached(six()); e != api.OK || !slices.Equal(a, []bool{true, true, true, true, false, false}) {
		t.Error(a, e)
	}
}

// flowing is code that flows, and what is told of it: what follows each instruction, and each block, and x for each one that is reached.
type flowing struct {
	l       []api.Ins
	next    string
	begins  []int
	behind  string
	reached string
}

func flowings() []flowing {
	return []flowing{
		{[]api.Ins{ret()}, "-", []int{0}, "-", "x"},
		{[]api.Ins{ins(api.OpExit)}, "-", []int{0}, "-", "x"},
		{[]api.Ins{jmp(0)}, "0", []int{0}, "0", "x"},
		{[]api.Ins{nop(), nop(), ret()}, "1 2 -", []int{0}, "-", "xxx"},
		{[]api.Ins{nop(), jmp(1)}, "1 1", []int{0, 1}, "1 1", "xx"},
		{[]api.Ins{nop(), nop(), jmp(0)}, "1 2 0", []int{0}, "0", "xxx"},
		// A branch to itself, to the next one, to one behind that, and back.
		{[]api.Ins{brz(0), ret()}, "01 -", []int{0, 1}, "01 -", "xx"},
		{[]api.Ins{brz(4), ret()}, "1 -", []int{0, 1}, "1 -", "xx"},
		{[]api.Ins{brnz(5), nop(), ret()}, "12 2 -", []int{0, 1, 2}, "12 2 -", "xxx"},
		{[]api.Ins{nop(), nop(), brnz(1), ret()}, "1 2 13 -", []int{0, 1, 3}, "1 12 -", "xxxx"},
		{[]api.Ins{nop(), nop(), brnz(0), ret()}, "1 2 03 -", []int{0, 3}, "01 -", "xxxx"},
		// A jump to the next one, and over one that nothing else reaches.
		{[]api.Ins{jmp(3), ret()}, "1 -", []int{0, 1}, "1 -", "xx"},
		{[]api.Ins{jmp(5), ret(), ret()}, "2 - -", []int{0, 1, 2}, "2 - -", "x-x"},
		{[]api.Ins{jmp(4), nop(), ret()}, "2 2 -", []int{0, 1, 2}, "2 2 -", "x-x"},
		// What is not reached has targets, too: a loop of its own, and one into what is reached.
		{[]api.Ins{ret(), jmp(2)}, "- 1", []int{0, 1}, "- 1", "x-"},
		{[]api.Ins{nop(), nop(), ret(), jmp(1)}, "1 2 - 1", []int{0, 1, 3}, "1 - 1", "xxx-"},
		{[]api.Ins{ret(), jmp(5), jmp(2)}, "- 2 1", []int{0, 1, 2}, "- 2 1", "x--"},
		{[]api.Ins{ins(api.OpExit), nop(), nop(), ret()}, "- 2 3 -", []int{0, 1}, "- -", "x---"},
		// Reached only by a detour.
		{[]api.Ins{jmp(8), ret(), jmp(3), jmp(5)}, "3 - 1 2", []int{0, 1, 2, 3}, "3 - 1 2", "xxxx"},
		// Several go to one.
		{[]api.Ins{brz(9), brz(9), nop(), jmp(9)}, "13 23 3 3", []int{0, 1, 2, 3}, "13 23 3 3", "xxxx"},
		{[]api.Ins{brz(8), brnz(8), ret()}, "12 2 -", []int{0, 1, 2}, "12 2 -", "xxx"},
		// What calls, gets and puts goes on.
		{[]api.Ins{ins(api.OpCall), ins(api.OpGetb), ins(api.OpPutb), ins(api.OpExit)}, "1 2 3 -", []int{0}, "-", "xxxx"},
		{[]api.Ins{{Op: api.OpCall, N: 3, Args: []int{1, 2}}, {Op: api.OpConst, N: 6}, {Op: api.OpData, N: 6}, {Op: api.OpLea, N: 6}, ret()}, "1 2 3 4 -", []int{0}, "-", "xxxxx"},
	}
}

// blocks are the blocks that begin there; what follows each is told in behind.
func (x flowing) blocks() []api.Block {
	var out []api.Block
	for n, next := range follows(x.behind) {
		out = append(out, api.Block{From: x.begins[n], To: append(x.begins, len(x.l))[n+1], Next: next})
	}
	return out
}

func TestFlowings(t *testing.T) {
	for _, x := range flowings() {
		if e := flow.Check(x.l); e != api.OK {
			t.Errorf("Check(%v) is %v", x.l, e)
		}
		if a, e := flow.Next(x.l); e != api.OK || !sameLists(a, follows(x.next)) {
			t.Errorf("Next(%v) is %v %v, not %v", x.l, a, e, x.next)
		}
		if a, e := flow.Blocks(x.l); e != api.OK || !sameBlocks(a, x.blocks()) {
			t.Errorf("Blocks(%v) is %v %v, not %v", x.l, a, e, x.blocks())
		}
		a, e := flow.Reached(x.l)
		told := ""
		for _, is := range a {
			told += map[bool]string{true: "x", false: "-"}[is]
		}
		if e != api.OK || told != x.reached {
			t.Errorf("Reached(%v) is %v %v, not %v", x.l, told, e, x.reached)
		}
	}
}

// most is as many jumps as fit.
const most = 4096 / 3

func TestLongChains(t *testing.T) {
	var on, back, all []api.Ins
	for n := range most {
		on = append(on, jmp(3*((n+1)%most)))
		back = append(back, jmp(3*((n+most-1)%most)))
	}
	for range 1023 {
		all = append(all, brz(0))
	}
	for _, l := range [][]api.Ins{on, back, append(all, jmp(4*1023))} {
		reached, e := flow.Reached(l)
		blocks, be := flow.Blocks(l)
		if e != api.OK || be != api.OK || slices.Contains(reached, false) || len(reached) != len(l) || len(blocks) != len(l) {
			t.Error(len(l), len(reached), e, len(blocks), be)
		}
	}
	l := append(slices.Repeat([]api.Ins{jmp(0)}, most-1), jmp(3*(most-1)))
	reached, e := flow.Reached(l)
	if e != api.OK || slices.Index(reached, false) != 1 || slices.Contains(reached[1:], true) {
		t.Error(e, reached)
	}
}

// Rules

func TestArgumentsAreLeftAsTheyAre(t *testing.T) {
	args := []int{1, 2, 3, 4}
	room := []api.Ins{ins(api.OpConst), {Op: api.OpCall, Args: args[:2]}, brz(14), nop(), jmp(0), ret(), ins(77), {Op: api.OpJmp, N: 9}}
	held := slices.Clone(room)
	l := room[:6]
	for _, l := range [][]api.Ins{l, l[:3], room} {
		flow.Check(l)
		flow.Next(l)
		flow.Blocks(l)
		flow.Reached(l)
	}
	if !slices.EqualFunc(room, held, op.Same) || !slices.Equal(args, []int{1, 2, 3, 4}) {
		t.Error(room, args)
	}
}

// spoilt sets all of a list's elements, those of its spare capacity too.
func spoilt(l []int) {
	for n := range l[:cap(l)] {
		l[:cap(l)][n] = -7
	}
}

func TestAnswersShareNothing(t *testing.T) {
	l := []api.Ins{brz(8), brnz(4), brz(0), jmp(8), ret()}
	want := follows("12 12 03 2 -")
	for n := range l {
		next, _ := flow.Next(l)
		blocks, _ := flow.Blocks(l)
		reached, _ := flow.Reached(l)
		spoilt(next[n])
		spoilt(blocks[n].Next)
		clear(reached[:cap(reached)])
		for at := range want {
			if at != n && (!slices.Equal(next[at], want[at]) || !slices.Equal(blocks[at].Next, want[at])) {
				t.Error(n, next, blocks)
			}
		}
	}
	if reached, _ := flow.Reached(l); !slices.Equal(reached, []bool{true, true, true, true, false}) {
		t.Error(reached)
	}
}
