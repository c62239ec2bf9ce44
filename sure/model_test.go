package sure_test

import (
	"slices"
	"testing"

	"twinshaft/api"
	"twinshaft/code"
	"twinshaft/flow"
	"twinshaft/op"
	"twinshaft/sure"
)

// A draft is code whose targets are the numbers of instructions.

func hasTarget(i api.Ins) bool { return i.Op >= api.OpJmp && i.Op <= api.OpBrnz }

func ends(i api.Ins) bool {
	return i.Op == api.OpJmp || i.Op == api.OpRet || i.Op == api.OpExit
}

// aimed is the code of a draft: with the places of the instructions instead of their numbers.
func aimed(draft []api.Ins) []api.Ins {
	places := []int{0}
	for n, i := range draft {
		i.N = 0
		if !hasTarget(i) {
			i.N = draft[n].N
		}
		places = append(places, places[n]+code.Length(i))
	}
	out := slices.Clone(draft)
	for n, i := range draft {
		if hasTarget(i) {
			out[n].N = places[i.N]
		}
	}
	return out
}

// goes are the numbers of those that may come next.
func goes(draft []api.Ins, n int) []int {
	var out []int
	if !ends(draft[n]) {
		out = append(out, n+1)
	}
	if hasTarget(draft[n]) {
		out = append(out, draft[n].N)
	}
	return out
}

// writes is the register that an instruction writes, by the table of layer 6, or -1.
func writes(i api.Ins) int {
	switch i.Op {
	case api.OpNop, api.OpStore, api.OpJmp, api.OpBrz, api.OpBrnz, api.OpRet, api.OpPutb, api.OpExit:
		return -1
	}
	return i.A
}

// reads are the registers that it reads, by the same table.
func reads(i api.Ins) []int {
	switch i.Op {
	case api.OpNop, api.OpConst, api.OpLea, api.OpData, api.OpJmp, api.OpGetb:
		return nil
	case api.OpMov, api.OpExt, api.OpLoad:
		return []int{i.B}
	case api.OpStore:
		return []int{i.A, i.B}
	case api.OpBrz, api.OpBrnz, api.OpRet, api.OpPutb, api.OpExit:
		return []int{i.A}
	case api.OpCall:
		return i.Args
	}
	return []int{i.B, i.C}
}

// missed are the instructions to which a path leads on which nothing before its end writes a register.
func missed(draft []api.Ins, register int) []bool {
	out := make([]bool, len(draft))
	waiting := []int{0}
	for len(waiting) > 0 {
		n := waiting[0]
		waiting = waiting[1:]
		if out[n] {
			continue
		}
		out[n] = true
		if writes(draft[n]) != register {
			waiting = append(waiting, goes(draft, n)...)
		}
	}
	return out
}

// masksOf are the masks of a draft, register by register.
func masksOf(draft []api.Ins, params int) []uint64 {
	out := make([]uint64, len(draft))
	for register := range 64 {
		for n, is := range missed(draft, register) {
			if register < params || !is {
				out[n] |= 1 << register
			}
		}
	}
	return out
}

// masksByPaths are the masks of a draft, path by path. Paths with no instruction twice are enough: what a loop leaves out of a path writes nothing more.
func masksByPaths(draft []api.Ins, params int) []uint64 {
	out := slices.Repeat([]uint64{1<<64 - 1}, len(draft))
	on := make([]bool, len(draft))
	var walk func(n int, written uint64)
	walk = func(n int, written uint64) {
		if on[n] {
			return
		}
		on[n] = true
		out[n] &= written
		if r := writes(draft[n]); r >= 0 {
			written |= 1 << r
		}
		for _, at := range goes(draft, n) {
			walk(at, written)
		}
		on[n] = false
	}
	walk(0, 1<<params-1)
	return out
}

// unsetOf is what is read first of all that those masks do not have.
func unsetOf(draft []api.Ins, masks []uint64) (int, int) {
	for n, i := range draft {
		for _, r := range reads(i) {
			if masks[n]>>r&1 == 0 {
				return n, r
			}
		}
	}
	return -1, -1
}

// likeTheModel holds a draft's code against those masks, and tells the instruction that Unset tells.
func likeTheModel(t *testing.T, draft []api.Ins, params int, want []uint64) int {
	t.Helper()
	l := aimed(draft)
	if a, e := sure.Masks(l, params); e != api.OK || !slices.Equal(a, want) {
		t.Fatalf("Masks(%v, %d) is %x %v, not %x", l, params, a, e, want)
	}
	wantN, wantR := unsetOf(draft, want)
	n, r, e := sure.Unset(l, params)
	if e != api.OK || n != wantN || r != wantR {
		t.Fatalf("Unset(%v, %d) is %d %d %v, not %d %d", l, params, n, r, e, wantN, wantR)
	}
	return n
}

// each calls f with all drafts of so many instructions of some.
func each(some []api.Ins, many int, f func([]api.Ins)) {
	var extend func(l []api.Ins)
	extend = func(l []api.Ins) {
		if len(l) < many {
			for _, i := range some {
				extend(append(slices.Clone(l), i))
			}
		} else if ends(l[many-1]) {
			f(l)
		}
	}
	extend(nil)
}

// P11.1, P11.2

func TestLikeEachPathOfFewInstructions(t *testing.T) {
	met := map[int]int{}
	for many := 1; many <= 4; many++ {
		some := []api.Ins{set(0), set(1), add(1, 0, 1), ret(0), ret(1)}
		for n := range many {
			some = append(some, jmp(n), brz(0, n))
		}
		each(some, many, func(draft []api.Ins) {
			for params := range 3 {
				met[likeTheModel(t, draft, params, masksByPaths(draft, params))]++
			}
		})
	}
	for n := -1; n < 4; n++ {
		if met[n] < 100 {
			t.Errorf("%d is met %d times", n, met[n])
		}
	}
}

func TestLikeEachPathOfFive(t *testing.T) {
	some := []api.Ins{set(0), ret(0)}
	for n := range 5 {
		some = append(some, brz(1, n))
	}
	some = append(some, jmp(1), jmp(3))
	each(some, 5, func(draft []api.Ins) {
		likeTheModel(t, draft, 0, masksByPaths(draft, 0))
	})
}

// mixed tells numbers that look mixed, always the same ones.
type mixed uint64

func (m *mixed) below(n int) int {
	*m = *m*6364136223846793005 + 1442695040888963407
	return int(uint64(*m)>>33) % n
}

// draft is a draft of at most some number of instructions, with some registers; a branch is the more frequent the greater often is.
func (m *mixed) draft(most, registers, often int) []api.Ins {
	out := make([]api.Ins, 1+m.below(most))
	for n := range out {
		one, two, three := m.below(registers), m.below(registers), m.below(registers)
		out[n] = []api.Ins{{}, set(one), set(one), add(one, two, three), store(one, two), call(one, two, three), {Op: api.OpGetb, A: one}, {Op: api.OpPutb, A: one}}[m.below(8)]
		if m.below(16) < often {
			out[n] = []api.Ins{ret(one), {Op: api.OpExit, A: one}, jmp(m.below(len(out))), brz(one, m.below(len(out))), brz(one, m.below(len(out))), {Op: api.OpBrnz, A: one, N: m.below(len(out))}}[m.below(6)]
		}
	}
	out[len(out)-1] = []api.Ins{ret(m.below(registers)), jmp(m.below(len(out)))}[m.below(2)]
	return out
}

func TestLikeTheModelOnMixedCode(t *testing.T) {
	m := mixed(11)
	met := map[bool]int{}
	for n := range 4000 {
		draft := m.draft(1+n%60, 1+m.below(64), 1+n%7)
		params := m.below(9)
		met[likeTheModel(t, draft, params, masksOf(draft, params)) == -1]++
	}
	if met[true] < 100 || met[false] < 100 {
		t.Error(met)
	}
}

// TestLikeTheModelOnLongCode has branches to everywhere, over and over, in as much code as fits.
func TestLikeTheModelOnLongCode(t *testing.T) {
	m := mixed(12)
	met := 0
	for n := range 60 {
		draft := m.draft(1000, 64, 1+n%3)
		// Enough is written at first that there is something to lose.
		for r := range min(60, len(draft)-1) {
			draft[r] = set(r)
		}
		if _, e := code.Join(aimed(draft)); e == api.OK && len(draft) > 400 {
			likeTheModel(t, draft, n%9, masksOf(draft, n%9))
			met++
		}
	}
	if met < 10 {
		t.Error(met)
	}
}

// losing is a draft of a loop with very many ways back, to which one way in after the other comes, each with one register fewer.
func losing() []api.Ins {
	const head, ways = 2*64 + 1, 700
	var out []api.Ins
	for r := range 64 {
		out = append(out, brz(0, head+1+ways+64-r), set(r))
	}
	out = append(out, api.Ins{})
	if len(out) != head {
		panic("the head is not where it should be")
	}
	out = append(out, api.Ins{})
	for range ways {
		out = append(out, brz(0, head))
	}
	out = append(out, ret(0))
	for range 64 {
		out = append(out, jmp(head))
	}
	return out
}

func TestLoopThatLosesOneAfterTheOther(t *testing.T) {
	draft := losing()
	likeTheModel(t, draft, 0, masksOf(draft, 0))
	likeTheModel(t, draft, 8, masksOf(draft, 8))
	masks, e := sure.Masks(aimed(draft), 3)
	if e != api.OK || masks[129] != 7 || masks[126] != 1<<63-1 || masks[128] != 1<<64-1 {
		t.Error(masks, e)
	}
}

// P11.3

// TestPaths goes at random along what follows, as flow tells it, and counts what op tells to be written.
func TestPaths(t *testing.T) {
	m := mixed(13)
	for n := range 1500 {
		params := m.below(9)
		l := aimed(m.draft(30, 1+m.below(20), 1+n%6))
		masks, e := sure.Masks(l, params)
		next, _ := flow.Next(l)
		if e != api.OK {
			t.Fatalf("Masks(%v, %d): %v", l, params, e)
		}
		for range 20 {
			at, written := 0, uint64(1)<<params-1
			for range 100 {
				if masks[at]&^written != 0 {
					t.Fatalf("Masks(%v, %d) is %x, but %x was written before %d", l, params, masks, written, at)
				}
				if r := op.Writes(l[at]); r >= 0 {
					written |= 1 << r
				}
				if len(next[at]) == 0 {
					break
				}
				at = next[at][m.below(len(next[at]))]
			}
		}
	}
}

// pathWithout is a path to an instruction on which nothing before its end writes a register, nil if there is none.
func pathWithout(l []api.Ins, next [][]int, end, register int) []int {
	from := slices.Repeat([]int{-1}, len(l))
	waiting := []int{0}
	seen := map[int]bool{0: true}
	for len(waiting) > 0 && !seen[end] {
		n := waiting[0]
		waiting = waiting[1:]
		for _, at := range next[n] {
			if op.Writes(l[n]) != register && !seen[at] {
				seen[at], from[at] = true, n
				waiting = append(waiting, at)
			}
		}
	}
	if !seen[end] {
		return nil
	}
	out := []int{end}
	for out[0] != 0 {
		out = slices.Insert(out, 0, from[out[0]])
	}
	return out
}

// TestPathForEachThatIsNotSure follows each such path once more, step by step.
func TestPathForEachThatIsNotSure(t *testing.T) {
	m := mixed(14)
	for n := range 300 {
		params := m.below(9)
		l := aimed(m.draft(25, 1+m.below(12), 1+n%6))
		masks, _ := sure.Masks(l, params)
		next, _ := flow.Next(l)
		for end, mask := range masks {
			for register := range 64 {
				if mask>>register&1 == 1 {
					continue
				}
				path := pathWithout(l, next, end, register)
				if path == nil || path[0] != 0 || path[len(path)-1] != end || register < params {
					t.Fatalf("Masks(%v, %d) is %x, but %d is sure at %d", l, params, masks, register, end)
				}
				for step, at := range path[:len(path)-1] {
					if !slices.Contains(next[at], path[step+1]) || op.Writes(l[at]) == register {
						t.Fatalf("%v: %v is no path without %d", l, path, register)
					}
				}
			}
		}
	}
}

func TestMoreParams(t *testing.T) {
	m := mixed(15)
	for n := range 1000 {
		l := aimed(m.draft(30, 1+m.below(14), 1+n%6))
		bare, _ := sure.Masks(l, 0)
		for params := range 9 {
			masks, e := sure.Masks(l, params)
			for at, mask := range masks {
				if mask != bare[at]|(1<<params-1) {
					t.Fatalf("Masks(%v, %d) is %x, with none %x", l, params, masks, bare)
				}
			}
			if e != api.OK || len(masks) != len(l) {
				t.Fatalf("Masks(%v, %d): %v", l, params, e)
			}
		}
	}
}

// TestUnsetMovesOn: with more params what Unset tells never moves back, and each of its answers is one of its masks.
func TestUnsetMovesOn(t *testing.T) {
	m := mixed(16)
	for n := range 1000 {
		l := aimed(m.draft(30, 1+m.below(10), 1+n%4))
		last := 0
		for params := range 9 {
			masks, _ := sure.Masks(l, params)
			at, r, e := sure.Unset(l, params)
			if e != api.OK || (at == -1) != (r == -1) {
				t.Fatalf("Unset(%v, %d) is %d %d %v", l, params, at, r, e)
			}
			if at == -1 {
				at, last = len(l), len(l)
			} else if masks[at]>>r&1 == 1 || !slices.Contains(op.Reads(l[at]), r) {
				t.Fatalf("Unset(%v, %d) is %d %d, but the masks are %x", l, params, at, r, masks)
			}
			if at < last {
				t.Fatalf("Unset(%v, %d) is %d, ahead of %d", l, params, at, last)
			}
			last = at
		}
	}
}
