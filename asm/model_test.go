package asm_test

import (
	"slices"
	"testing"

	"twinshaft/api"
	"twinshaft/asm"
	"twinshaft/mem"
	"twinshaft/rvcode"
	"twinshaft/rvstep"
)

// mixed tells numbers that look mixed, always the same ones.
type mixed uint64

func (m *mixed) below(n int) int {
	*m = *m*6364136223846793005 + 1442695040888963407
	return int(uint64(*m)>>33) % n
}

// jumble is valid lines, in runs of such lengths that many branches are about as far from their labels as they can reach.
func (m *mixed) jumble() []api.Line {
	labels := 1 + m.below(12)
	var l []api.Line
	for n := range labels {
		l = append(l, label(1+n*700))
	}
	for range 2 + m.below(60) {
		to := 1 + m.below(labels)*700
		if m.below(6) == 0 {
			l = append(l, jal(to))
			continue
		}
		x := api.Rv{Op: api.RvBeq + m.below(6), Rs1: m.below(32), Rs2: m.below(32)}
		for range 1 + m.below(3) {
			l = append(l, goes(x, to))
		}
	}
	for i := range l {
		j := m.below(i + 1)
		l[i], l[j] = l[j], l[i]
	}
	for range 1 + m.below(4) {
		room := 4000 - len(l)
		l = slices.Insert(l, m.below(len(l)+1), nops(min(room, 900+m.below(130)))...)
	}
	return l
}

// standing tells where a label stands among lines.
func standing(l []api.Line, n int) int {
	return slices.IndexFunc(l, func(x api.Line) bool { return x.Kind == api.LineLabel && x.Label == n })
}

// between tells how many words the lines from one to another take, less than 0 if the other one is before.
func between(l []api.Line, far map[int]bool, from, to int) int {
	if from > to {
		return -between(l, far, to, from)
	}
	many := 0
	for i := from; i < to; i++ {
		if l[i].Kind != api.LineLabel {
			many++
		}
		if far[i] {
			many++
		}
	}
	return many
}

// farOnes finds the far branches one by one: those that do not reach their labels, given those found before, until all others do.
func farOnes(l []api.Line) map[int]bool {
	far := map[int]bool{}
	for again := true; again; {
		again = false
		for i, x := range l {
			if x.Kind != api.LineGoes || rvcode.Form(x.X.Op) != "B" || far[i] {
				continue
			}
			x.X.Imm = 4 * between(l, far, i, standing(l, x.Label))
			if rvcode.Check(x.X) != api.OK {
				far[i], again = true, true
			}
		}
	}
	return far
}

// modelled is what the chapter says of lines: places and words.
func modelled(l []api.Line) ([]int, []uint32) {
	far := farOnes(l)
	var places []int
	var words []uint32
	put := func(x api.Rv) {
		w, _ := rvcode.Encode(x)
		words = append(words, w)
	}
	for i, x := range l {
		places = append(places, len(words))
		switch {
		case x.Kind == api.LineLabel:
		case x.Kind == api.LinePlain:
			put(x.X)
		case far[i]:
			for _, pair := range branches() {
				if pair[0] == x.X.Op {
					put(api.Rv{Op: pair[1], Rs1: x.X.Rs1, Rs2: x.X.Rs2, Imm: 8})
				}
			}
			put(api.Rv{Op: api.RvJal, Imm: 4 * (between(l, far, i, standing(l, x.Label)) - 1)})
		default:
			x.X.Imm = 4 * between(l, far, i, standing(l, x.Label))
			put(x.X)
		}
	}
	return append(places, len(words)), words
}

// P5.2, P5.3

func TestAgainstTheModel(t *testing.T) {
	m, fars := mixed(1), 0
	for range 40 {
		l := m.jumble()
		places, words := modelled(l)
		p, e := asm.Places(l)
		if e != api.OK || !slices.Equal(p, places) {
			t.Fatal("places", e)
		}
		w, e := asm.Assemble(l)
		if e != api.OK || !slices.Equal(w, words) {
			t.Fatal("words", e)
		}
		for i := range l {
			if p[i+1]-p[i] == 2 {
				fars++
			}
		}
	}
	if fars < 200 {
		t.Error("too few far branches:", fars)
	}
}

// P5.4

// lands tells to which word the word at a place goes, if it does.
func lands(t *testing.T, w []uint32, at int) int {
	t.Helper()
	x := decoded(t, w[at])
	if x.Imm%4 != 0 {
		t.Fatal(x)
	}
	return at + x.Imm/4
}

func TestEachLineReachesItsLabel(t *testing.T) {
	m := mixed(7)
	for range 40 {
		l := m.jumble()
		p, _ := asm.Places(l)
		w, e := asm.Assemble(l)
		if e != api.OK || p[len(l)] != len(w) {
			t.Fatal(len(w), e)
		}
		for i, x := range l {
			size := p[i+1] - p[i]
			if size < 0 || size > 2 || (size == 0) != (x.Kind == api.LineLabel) {
				t.Fatalf("%v takes %d words", x, size)
			}
			if x.Kind != api.LineGoes {
				continue
			}
			goal, from := p[standing(l, x.Label)], p[i]
			if size == 2 {
				if x.X.Op == api.RvJal || lands(t, w, from) != from+2 {
					t.Fatal("not led over", x)
				}
				if way := 4 * (goal - from); way >= -4096 && way <= 4094 {
					t.Fatal("far for nothing", x)
				}
				from++
			}
			if lands(t, w, from) != goal {
				t.Fatalf("%v goes to %d, not %d", x, lands(t, w, from), goal)
			}
		}
	}
}

func TestWhereAllReachNothingIsAdded(t *testing.T) {
	m := mixed(3)
	for range 100 {
		l := m.jumble()
		l = slices.DeleteFunc(l, func(x api.Line) bool { return x.Kind == api.LinePlain })
		w, e := asm.Assemble(l)
		labels := 0
		for _, x := range l {
			if x.Kind == api.LineLabel {
				labels++
			}
		}
		if e != api.OK || len(w) != len(l)-labels {
			t.Fatal(len(w), len(l), labels, e)
		}
	}
}

// paths are words of code that come to a branch of the registers 1 and 2: at its label the register 5 is set to 1, elsewhere to 2.
func paths(t *testing.T, op, padding int, forwards bool) []uint32 {
	t.Helper()
	x := goes(api.Rv{Op: op, Rs1: 1, Rs2: 2}, 1)
	set := func(n int) []api.Line {
		return list(plain(api.Rv{Op: api.RvAddi, Rd: 5, Imm: n}), plain(api.Rv{Op: api.RvEcall}))
	}
	l := lines(list(x), set(2), nops(padding), list(label(1)), set(1))
	if !forwards {
		l = lines(list(jal(2), label(1)), set(1), nops(padding), list(label(2), x), set(2))
	}
	w, e := asm.Assemble(l)
	if e != api.OK {
		t.Fatal(e)
	}
	return w
}

// taken tells whether the machine goes to the label when the two registers are those words.
func taken(t *testing.T, code []uint32, one, two uint64) bool {
	t.Helper()
	m, _ := mem.New(16)
	c, _ := rvstep.New(m)
	c.Load(code)
	c.Set(1, one)
	c.Set(2, two)
	if end, _ := c.Run(10); end != api.EndCall {
		t.Fatal(end)
	}
	return c.Reg(5) == 1
}

func TestFarBranchesDoAsNearOnes(t *testing.T) {
	words := []uint64{0, 1, 1<<63 - 1, 1 << 63, 1<<64 - 1}
	for _, pair := range branches() {
		near, inverse := paths(t, pair[0], 0, true), paths(t, pair[1], 0, true)
		var others [][]uint32
		for _, padding := range []int{0, 1020, 1021, 1022, 1100} {
			others = append(others, paths(t, pair[0], padding, true), paths(t, pair[0], padding, false))
		}
		for _, one := range words {
			for _, two := range words {
				goes := taken(t, near, one, two)
				if taken(t, inverse, one, two) == goes {
					t.Fatalf("%d and its inverse do the same for %d %d", pair[0], one, two)
				}
				for i, code := range others {
					if taken(t, code, one, two) != goes {
						t.Fatalf("%d of %d %d is otherwise in the paths %d", pair[0], one, two, i)
					}
				}
			}
		}
	}
}
