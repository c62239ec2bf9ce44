package flow_test

import (
	"slices"
	"testing"

	"twinshaft/api"
	"twinshaft/code"
	"twinshaft/flow"
)

// modelMax is how many instructions the model's code has at most.
const modelMax = 40

// model is where the instructions of code go, by the chapter's words: a table of who follows whom.
type model struct {
	many   int
	goes   [modelMax][modelMax]bool
	leader [modelMax + 1]bool
}

// length is how many bytes an instruction of the model's code has.
func length(i api.Ins) int {
	return map[int]int{api.OpNop: 1, api.OpConst: 10, api.OpRet: 2, api.OpExit: 2, api.OpJmp: 3, api.OpBrz: 4, api.OpBrnz: 4}[i.Op]
}

func hasTarget(i api.Ins) bool { return i.Op >= api.OpJmp && i.Op <= api.OpBrnz }

func ends(i api.Ins) bool {
	return i.Op == api.OpJmp || i.Op == api.OpRet || i.Op == api.OpExit
}

// modelOf is the model of code of which every instruction can be put, or why it does not flow.
func modelOf(l []api.Ins) (model, api.Errno) {
	m := model{many: len(l)}
	if len(l) == 0 {
		return m, api.ErrForm
	}
	m.leader[0] = true
	for n, i := range l {
		if hasTarget(i) {
			at, place := 0, 0
			for at < len(l) && place < i.N {
				place += length(l[at])
				at++
			}
			if at == len(l) || place != i.N {
				return m, api.ErrTarget
			}
			m.goes[n][at], m.leader[at] = true, true
		}
		if !ends(i) && n+1 < len(l) {
			m.goes[n][n+1] = true
		}
		if ends(i) || hasTarget(i) {
			m.leader[n+1] = true
		}
	}
	if !ends(l[len(l)-1]) {
		return m, api.ErrForm
	}
	return m, api.OK
}

// next are the numbers of those that follow.
func (m *model) next() [][]int {
	var out [][]int
	for n := range m.many {
		var all []int
		for at := range m.many {
			if m.goes[n][at] {
				all = append(all, at)
			}
		}
		out = append(out, all)
	}
	return out
}

// block is the number of the block in which an instruction is.
func (m *model) block(n int) int {
	out := -1
	for at := range n + 1 {
		if m.leader[at] {
			out++
		}
	}
	return out
}

func (m *model) blocks() []api.Block {
	var out []api.Block
	for n, next := range m.next() {
		if m.leader[n] {
			out = append(out, api.Block{From: n})
		}
		b := &out[m.block(n)]
		b.To, b.Next = n+1, nil
		for _, at := range next {
			// Of those that follow a block's last one each is the first of another.
			if m.leader[at] {
				b.Next = append(b.Next, m.block(at))
			}
		}
	}
	return out
}

// reached are those to which a path leads from the first one: the paths over ever more instructions.
func (m *model) reached() []bool {
	paths := m.goes
	for over := range m.many {
		for from := range m.many {
			if paths[from][over] {
				for to := range m.many {
					paths[from][to] = paths[from][to] || paths[over][to]
				}
			}
		}
	}
	out := make([]bool, m.many)
	for n := range out {
		out[n] = n == 0 || paths[0][n]
	}
	return out
}

func likeTheModel(t *testing.T, l []api.Ins) api.Errno {
	t.Helper()
	m, want := modelOf(l)
	if want != api.OK {
		refuses(t, l, want)
		return want
	}
	if e := flow.Check(l); e != api.OK {
		t.Fatalf("Check(%v) is %v", l, e)
	}
	if a, e := flow.Next(l); e != api.OK || !sameLists(a, m.next()) {
		t.Fatalf("Next(%v) is %v %v, not %v", l, a, e, m.next())
	}
	if a, e := flow.Blocks(l); e != api.OK || !sameBlocks(a, m.blocks()) {
		t.Fatalf("Blocks(%v) is %v %v, not %v", l, a, e, m.blocks())
	}
	if a, e := flow.Reached(l); e != api.OK || !slices.Equal(a, m.reached()) {
		t.Fatalf("Reached(%v) is %v %v, not %v", l, a, e, m.reached())
	}
	return api.OK
}

// each calls f with all lists of so many instructions of some.
func each(some []api.Ins, many int, f func([]api.Ins)) {
	var extend func(l []api.Ins)
	extend = func(l []api.Ins) {
		if len(l) == many {
			f(l)
			return
		}
		for _, i := range some {
			extend(append(slices.Clone(l), i))
		}
	}
	extend(nil)
}

// P10.1, P10.2

func TestLikeTheModelOnFewInstructions(t *testing.T) {
	met := map[api.Errno]int{}
	for many, places := range []int{1, 6, 9, 9} {
		some := []api.Ins{nop(), ret()}
		for place := range places {
			some = append(some, jmp(place), brz(place))
		}
		each(some, many, func(l []api.Ins) { met[likeTheModel(t, l)]++ })
	}
	for _, e := range []api.Errno{api.OK, api.ErrForm, api.ErrTarget} {
		if met[e] == 0 {
			t.Error(e, "is not met")
		}
	}
}

// TestLikeTheModelOnFourAndFive has targets only where instructions are, or none.
func TestLikeTheModelOnFourAndFive(t *testing.T) {
	some := []api.Ins{nop(), ret()}
	for number := range 4 {
		some = append(some, jmp(number), brnz(number))
	}
	each(some, 4, func(l []api.Ins) { likeTheModel(t, aimed(l)) })
	some = []api.Ins{nop(), jmp(0), ret()}
	for number := range 5 {
		some = append(some, brz(number))
	}
	each(some, 5, func(l []api.Ins) { likeTheModel(t, aimed(l)) })
}

// aimed is code whose targets, the numbers of instructions, are replaced by the places of these.
func aimed(l []api.Ins) []api.Ins {
	out := slices.Clone(l)
	for n, i := range l {
		if hasTarget(i) {
			place := 0
			for _, before := range l[:i.N] {
				place += length(before)
			}
			out[n].N = place
		}
	}
	return out
}

// mixed tells numbers that look mixed, always the same ones.
type mixed uint64

func (m *mixed) below(n int) int {
	*m = *m*6364136223846793005 + 1442695040888963407
	return int(uint64(*m)>>33) % n
}

// code is code that flows, or often does; a branch is the more frequent the greater often is.
func (m *mixed) code(often int) []api.Ins {
	l := make([]api.Ins, 1+m.below(modelMax))
	for n := range l {
		l[n] = []api.Ins{nop(), ins(api.OpConst)}[m.below(2)]
		if m.below(8) < often {
			l[n] = []api.Ins{ret(), ins(api.OpExit), jmp(0), brz(0), brz(0), brnz(0)}[m.below(6)]
			if hasTarget(l[n]) {
				l[n].N = m.below(len(l))
			}
		}
	}
	if m.below(40) != 0 {
		l[len(l)-1] = []api.Ins{ret(), ins(api.OpExit), jmp(m.below(len(l)))}[m.below(3)]
	}
	l = aimed(l)
	if n := m.below(len(l)); hasTarget(l[n]) && m.below(4) == 0 {
		l[n].N += m.below(5) - 2
		l[n].N = max(l[n].N, 0)
	}
	return l
}

func TestLikeTheModelOnMixedCode(t *testing.T) {
	m := mixed(10)
	met := map[api.Errno]int{}
	for n := range 10000 {
		met[likeTheModel(t, m.code(1+n%7))]++
	}
	for _, e := range []api.Errno{api.OK, api.ErrForm, api.ErrTarget} {
		if met[e] < 100 {
			t.Errorf("%v is met %d times", e, met[e])
		}
	}
}

// P10.3

// TestBlocksAreAllInstructions asks only the package itself.
func TestBlocksAreAllInstructions(t *testing.T) {
	m := mixed(11)
	for n := range 5000 {
		l := m.code(1 + n%4)
		if flow.Check(l) != api.OK {
			continue
		}
		next, _ := flow.Next(l)
		blocks, _ := flow.Blocks(l)
		at := 0
		for _, b := range blocks {
			if b.From != at || b.To <= b.From {
				t.Fatalf("%v: %v", l, blocks)
			}
			for within := b.From; within < b.To-1; within++ {
				if !slices.Equal(next[within], []int{within + 1}) {
					t.Fatalf("%v: %v, but %v", l, blocks, next)
				}
			}
			var leaders []int
			for _, behind := range b.Next {
				leaders = append(leaders, blocks[behind].From)
			}
			if !slices.Equal(next[b.To-1], leaders) {
				t.Fatalf("%v: %v, but %v", l, blocks, next)
			}
			at = b.To
		}
		if at != len(l) {
			t.Fatalf("%v: %v", l, blocks)
		}
	}
}

// isClosed tells whether what follows one of a set, a bit for each instruction, is one of it.
func isClosed(next [][]int, set uint) bool {
	for n, all := range next {
		for _, at := range all {
			if set>>n&1 == 1 && set>>at&1 == 0 {
				return false
			}
		}
	}
	return true
}

// TestReachedIsTheSmallestClosedSet holds what is reached against every set that has the first instruction.
func TestReachedIsTheSmallestClosedSet(t *testing.T) {
	m := mixed(12)
	met := map[bool]int{}
	for range 6000 {
		l := m.code(6)
		if len(l) > 9 || flow.Check(l) != api.OK {
			continue
		}
		next, _ := flow.Next(l)
		reached, _ := flow.Reached(l)
		all := uint(1)<<len(l) - 1
		smallest := all
		for set := uint(1); set <= all; set += 2 {
			if isClosed(next, set) {
				smallest &= set
			}
		}
		for n, is := range reached {
			if is != (smallest>>n&1 == 1) {
				t.Fatalf("%v: %v", l, reached)
			}
		}
		met[slices.Contains(reached, false)]++
	}
	if met[true] < 100 || met[false] < 100 {
		t.Error(met)
	}
}

// TestPlacesAreThoseOfSplit: what is read from bytes and checked goes where the instructions go of which the bytes are.
func TestPlacesAreThoseOfSplit(t *testing.T) {
	all, _ := oneOfEach()
	l := append(all, jmp(0))
	b, e := code.Join(l)
	if e != api.OK {
		t.Fatal(e)
	}
	_, places, _ := code.Split(b)
	for number, place := range places {
		l[len(l)-1] = jmp(place)
		next, e := flow.Next(l)
		if e != api.OK || !slices.Equal(next[len(l)-1], []int{number}) {
			t.Errorf("%d: %v %v", place, next, e)
		}
	}
}
