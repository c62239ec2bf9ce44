package asm_test

import (
	"math"
	"slices"
	"testing"

	"twinshaft/api"
	"twinshaft/asm"
	"twinshaft/rvcode"
)

func label(n int) api.Line { return api.Line{Kind: api.LineLabel, Label: n} }

func plain(x api.Rv) api.Line { return api.Line{X: x} }

func nop() api.Line { return plain(api.Rv{Op: api.RvAddi}) }

func nops(many int) []api.Line { return slices.Repeat([]api.Line{nop()}, many) }

func goes(x api.Rv, n int) api.Line { return api.Line{Kind: api.LineGoes, Label: n, X: x} }

func beq(n int) api.Line { return goes(api.Rv{Op: api.RvBeq, Rs1: 1, Rs2: 2}, n) }

func jal(n int) api.Line { return goes(api.Rv{Op: api.RvJal, Rd: 3}, n) }

// lines are lists of lines, one behind the other.
func lines(parts ...[]api.Line) []api.Line { return slices.Concat(parts...) }

func list(l ...api.Line) []api.Line { return l }

// branches are the operations of the form B, each with its inverse.
func branches() [][2]int {
	return [][2]int{
		{api.RvBeq, api.RvBne}, {api.RvBne, api.RvBeq},
		{api.RvBlt, api.RvBge}, {api.RvBge, api.RvBlt},
		{api.RvBltu, api.RvBgeu}, {api.RvBgeu, api.RvBltu},
	}
}

// valid is an instruction of an operation, with no immediate and the registers that its form has.
func valid(op int) api.Rv {
	x := api.Rv{Op: op}
	switch form := rvcode.Form(op); form {
	case "R":
		x.Rd, x.Rs1, x.Rs2 = 5, 6, 7
	case "I", "X", "Y":
		x.Rd, x.Rs1 = 5, 6
	case "S", "B":
		x.Rs1, x.Rs2 = 6, 7
	case "U", "J":
		x.Rd = 5
	}
	return x
}

func decoded(t *testing.T, w uint32) api.Rv {
	t.Helper()
	x, e := rvcode.Decode(w)
	if e != api.OK {
		t.Fatal(w, e)
	}
	return x
}

// P5.1

func TestInverse(t *testing.T) {
	want := map[int]int{}
	for _, pair := range branches() {
		want[pair[0]] = pair[1]
	}
	for op := -70; op < 200; op++ {
		if got := asm.Inverse(op); got != want[op] {
			t.Errorf("Inverse(%d): %d, not %d", op, got, want[op])
		}
	}
	for _, op := range []int{math.MinInt, math.MinInt + 5, -1 << 32, 1<<32 + 5, 1<<32 + 6, 261, math.MaxInt} {
		if got := asm.Inverse(op); got != 0 {
			t.Errorf("Inverse(%d): %d", op, got)
		}
	}
}

func TestCheckExamples(t *testing.T) {
	for i, c := range []struct {
		l    []api.Line
		want api.Errno
	}{
		{list(label(1), label(1)), api.ErrExists},
		{list(beq(1)), api.ErrMissing},
		{list(label(0)), api.ErrArg},
		{list(api.Line{Label: 1, X: nop().X}), api.ErrArg},
		{list(label(1), nop(), beq(1)), api.OK},
		{nil, api.OK},
		{list(), api.OK},
	} {
		if e := asm.Check(c.l); e != c.want {
			t.Errorf("%d: %v, not %v", i, e, c.want)
		}
	}
}

func TestCheckKinds(t *testing.T) {
	for _, kind := range []int{math.MinInt, -1 << 32, -1, 3, 4, 1 << 32, 1<<32 + 1, 1<<32 + 2, math.MaxInt} {
		for _, like := range []api.Line{nop(), label(1), beq(1)} {
			like.Kind = kind
			if e := asm.Check(list(label(1), like)); e != api.ErrArg {
				t.Errorf("kind %d: %v", kind, e)
			}
		}
	}
}

func TestCheckPlainLines(t *testing.T) {
	for op := -1; op <= 65; op++ {
		x := valid(op)
		want := api.OK
		if op < 1 || op > 63 {
			want = api.ErrArg
		}
		if e := asm.Check(list(plain(x))); e != want {
			t.Errorf("operation %d: %v", op, e)
		}
		for _, n := range []int{-1, 1, 10000, 10001, math.MaxInt} {
			if e := asm.Check(list(label(1), label(10000), api.Line{X: x, Label: n})); e != api.ErrArg {
				t.Errorf("operation %d with the label %d: %v", op, n, e)
			}
		}
	}
	for _, x := range []api.Rv{{}, {Op: api.RvAddi, Rd: 32}, {Op: api.RvAddi, Rs2: 1}, {Op: api.RvAddi, Imm: 2048}, {Op: api.RvBeq, Imm: 3}, {Op: api.RvBeq, Imm: 4096}, {Op: api.RvEcall, Rd: 1}} {
		if e := asm.Check(list(plain(x))); e != api.ErrArg {
			t.Error(x, e)
		}
	}
	for _, x := range []api.Rv{{Op: api.RvBeq, Imm: -4096}, {Op: api.RvBeq, Imm: 4094}, {Op: api.RvJal, Imm: 1048574}, {Op: api.RvAddi, Rd: 31, Rs1: 31, Imm: -2048}} {
		if e := asm.Check(list(plain(x))); e != api.OK {
			t.Error(x, e)
		}
	}
}

func TestCheckLabels(t *testing.T) {
	for _, n := range []int{1, 2, 9999, 10000} {
		if e := asm.Check(list(label(n))); e != api.OK {
			t.Errorf("label %d: %v", n, e)
		}
	}
	for _, n := range []int{math.MinInt, -1, 0, 10001, 1<<32 + 1, math.MaxInt} {
		if e := asm.Check(list(label(n))); e != api.ErrArg {
			t.Errorf("label %d: %v", n, e)
		}
	}
	for _, x := range []api.Rv{{Op: 1}, {Rd: 1}, {Rs1: 1}, {Rs2: 1}, {Imm: 1}, {Imm: -1}, nop().X} {
		if e := asm.Check(list(api.Line{Kind: api.LineLabel, Label: 1, X: x})); e != api.ErrArg {
			t.Error(x, e)
		}
	}
}

func TestCheckLinesThatGo(t *testing.T) {
	for op := -1; op <= 65; op++ {
		want := api.ErrArg
		if form := rvcode.Form(op); form == "B" || form == "J" {
			want = api.OK
		}
		if e := asm.Check(list(goes(valid(op), 1), label(1))); e != want {
			t.Errorf("operation %d: %v", op, e)
		}
	}
	for _, x := range []api.Rv{{}, {Op: api.RvBeq, Imm: 4}, {Op: api.RvBeq, Imm: -4}, {Op: api.RvBeq, Imm: 1}, {Op: api.RvBeq, Rd: 1}, {Op: api.RvBeq, Rs1: 32}, {Op: api.RvBeq, Rs2: -1}, {Op: api.RvJal, Imm: 4}, {Op: api.RvJal, Rd: 32}, {Op: api.RvJal, Rs1: 1}} {
		if e := asm.Check(list(label(1), goes(x, 1))); e != api.ErrArg {
			t.Error(x, e)
		}
	}
	for _, n := range []int{math.MinInt, -1, 0, 10001, math.MaxInt} {
		for _, x := range []api.Line{beq(n), jal(n)} {
			if e := asm.Check(list(label(1), x)); e != api.ErrArg {
				t.Errorf("to the label %d: %v", n, e)
			}
		}
	}
	for _, n := range []int{1, 2, 10000} {
		for _, x := range []api.Line{beq(n), jal(n)} {
			if e := asm.Check(list(x, label(3))); e != api.ErrMissing {
				t.Errorf("to the label %d: %v", n, e)
			}
			if e := asm.Check(list(x, label(n))); e != api.OK {
				t.Errorf("to the label %d behind: %v", n, e)
			}
		}
	}
}

func TestCheckHowMany(t *testing.T) {
	for many, want := range map[int]api.Errno{3999: api.OK, 4000: api.OK, 4001: api.ErrLong, 5000: api.ErrLong} {
		if e := asm.Check(nops(many)); e != want {
			t.Errorf("%d lines: %v", many, e)
		}
	}
	// Lines that take no words count too.
	var labels []api.Line
	for n := range 4001 {
		labels = append(labels, label(n+1))
	}
	if e := asm.Check(labels); e != api.ErrLong {
		t.Error("labels", e)
	}
	if e := asm.Check(labels[1:]); e != api.OK {
		t.Error("labels", e)
	}
}

func TestCheckOrder(t *testing.T) {
	wrong := label(0)
	for i, c := range []struct {
		l    []api.Line
		want api.Errno
	}{
		// The length is before all, ErrMissing behind all, and the first line decides between the other two.
		{lines(list(wrong, label(1), label(1), beq(2)), nops(3997)), api.ErrLong},
		{list(beq(2), wrong), api.ErrArg},
		{list(beq(2), label(1), label(1)), api.ErrExists},
		{list(label(1), label(1), wrong), api.ErrExists},
		{list(label(1), wrong, label(1)), api.ErrArg},
		{list(wrong, label(1), label(1)), api.ErrArg},
		{list(label(1), label(2), nop(), label(1), beq(1)), api.ErrExists},
		{list(beq(1), label(1), jal(2)), api.ErrMissing},
		{list(beq(1), jal(1), beq(1), label(1)), api.OK},
	} {
		if e := asm.Check(c.l); e != c.want {
			t.Errorf("%d: %v, not %v", i, e, c.want)
		}
		if p, e := asm.Places(c.l); c.want != api.OK && (p != nil || e != c.want) {
			t.Errorf("Places %d: %v %v", i, p, e)
		}
		if w, e := asm.Assemble(c.l); c.want != api.OK && (w != nil || e != c.want) {
			t.Errorf("Assemble %d: %v %v", i, w, e)
		}
	}
}

// P5.2

func TestPlacesExamples(t *testing.T) {
	for i, c := range []struct {
		l    []api.Line
		want []int
	}{
		{list(label(1), nop(), beq(1)), []int{0, 0, 1, 2}},
		{nil, []int{0}},
		{list(label(7)), []int{0, 0}},
		{list(nop()), []int{0, 1}},
		{list(label(1), label(2), jal(2), jal(1), label(3)), []int{0, 0, 0, 1, 2, 2}},
	} {
		if p, e := asm.Places(c.l); e != api.OK || !slices.Equal(p, c.want) {
			t.Errorf("%d: %v %v, not %v", i, p, e, c.want)
		}
	}
}

func TestPlacesOfFarBranches(t *testing.T) {
	// Forwards a branch reaches 1,023 words, itself among them; backwards 1,024.
	for between, far := range map[int]int{0: 0, 1: 0, 1022: 0, 1023: 1, 1024: 1, 3000: 1} {
		p, e := asm.Places(lines(list(beq(1)), nops(between), list(label(1))))
		if e != api.OK || p[1] != 1+far || p[between+2] != 1+between+far {
			t.Errorf("%d forwards: %v %v", between, p[1], e)
		}
	}
	for between, far := range map[int]int{0: 0, 1: 0, 1023: 0, 1024: 0, 1025: 1, 1026: 1, 3000: 1} {
		p, e := asm.Places(lines(list(label(1)), nops(between), list(beq(1))))
		if e != api.OK || p[between+1] != between || p[between+2] != between+1+far {
			t.Errorf("%d backwards: %v %v", between, p[between+2], e)
		}
	}
	// A jal is never far, however long its way.
	p, e := asm.Places(lines(list(label(1), jal(2)), nops(3996), list(jal(1), label(2))))
	if e != api.OK || p[4000] != 3998 {
		t.Error("jal", p[4000], e)
	}
}

func TestPlacesOfBranchesThatBecomeFarByOthers(t *testing.T) {
	// The inner branch is far at once, and then the outer one, which would just have reached its label.
	l := lines(list(beq(1)), nops(10), list(beq(2)), nops(1011), list(label(1)), nops(12), list(label(2)))
	p, e := asm.Places(l)
	if e != api.OK || p[1] != 2 || p[12] != 14 || p[len(l)] != 1037 {
		t.Error(p[1], p[12], p[len(l)], e)
	}
	// With one word less between, the outer one still reaches its label.
	l = slices.Delete(slices.Clone(l), 1, 2)
	p, e = asm.Places(l)
	if e != api.OK || p[1] != 1 || p[11] != 12 || p[len(l)] != 1035 {
		t.Error(p[1], p[11], p[len(l)], e)
	}
}

// chain is branches of which each, from the last one on, becomes far by those behind it alone.
func chain(many int) []api.Line {
	var l []api.Line
	for i := range many {
		l = append(l, beq(i+1))
	}
	// The last branch goes 1,024 words, and the one i before it goes 1,024 - i words, so that it needs i more.
	ends := map[int]int{}
	for i := range many {
		ends[many-1-i+1024-i] = many - i
	}
	for at := many; at <= many-1+1024; at++ {
		if n, here := ends[at]; here {
			l = append(l, label(n))
		}
		l = append(l, nop())
	}
	return l
}

func TestPlacesOfAChain(t *testing.T) {
	for _, many := range []int{1, 2, 3, 10, 400, 512} {
		l := chain(many)
		p, e := asm.Places(l)
		if e != api.OK {
			t.Fatal(many, e)
		}
		for i := range many {
			if p[i] != 2*i {
				t.Errorf("%d branches: the one at %d is at %d", many, i, p[i])
			}
		}
		// Without its last branch no one is far.
		l[many-1] = nop()
		if p, e = asm.Places(l); e != api.OK || p[many] != many {
			t.Error(many, p[many], e)
		}
	}
}

// P5.3

func TestAssembleExamples(t *testing.T) {
	w, e := asm.Assemble(list(label(1), nop(), beq(1)))
	if e != api.OK || len(w) != 2 || w[0] != 19 || decoded(t, w[1]) != (api.Rv{Op: api.RvBeq, Rs1: 1, Rs2: 2, Imm: -4}) {
		t.Error(w, e)
	}
	w, e = asm.Assemble(lines(list(beq(1)), nops(1022), list(label(1))))
	if e != api.OK || len(w) != 1023 || decoded(t, w[0]) != (api.Rv{Op: api.RvBeq, Rs1: 1, Rs2: 2, Imm: 4092}) {
		t.Error(len(w), e)
	}
	w, e = asm.Assemble(lines(list(beq(1)), nops(1023), list(label(1))))
	if e != api.OK || len(w) != 1025 || decoded(t, w[0]) != (api.Rv{Op: api.RvBne, Rs1: 1, Rs2: 2, Imm: 8}) || decoded(t, w[1]) != (api.Rv{Op: api.RvJal, Imm: 4096}) {
		t.Error(len(w), e)
	}
	for _, l := range [][]api.Line{nil, list(), list(label(1))} {
		if w, e := asm.Assemble(l); len(w) != 0 || e != api.OK {
			t.Error(w, e)
		}
	}
}

func TestAssemblePlainLines(t *testing.T) {
	for op := 1; op <= 63; op++ {
		x := valid(op)
		want, _ := rvcode.Encode(x)
		if w, e := asm.Assemble(list(label(1), plain(x), label(2))); e != api.OK || !slices.Equal(w, []uint32{want}) {
			t.Error(x, w, e)
		}
	}
	// A plain branch goes where its own immediate says, and is never far.
	x := api.Rv{Op: api.RvBltu, Rs1: 4, Rs2: 5, Imm: -4096}
	if w, e := asm.Assemble(list(plain(x))); e != api.OK || len(w) != 1 || decoded(t, w[0]) != x {
		t.Error(w, e)
	}
}

func TestAssembleBranches(t *testing.T) {
	for _, pair := range branches() {
		x := api.Rv{Op: pair[0], Rs1: 30, Rs2: 31}
		near, e := asm.Assemble(lines(list(label(9)), nops(1024), list(goes(x, 9))))
		want := x
		want.Imm = -4096
		if e != api.OK || len(near) != 1025 || decoded(t, near[1024]) != want {
			t.Errorf("%d near: %d %v", pair[0], len(near), e)
		}
		far, e := asm.Assemble(lines(list(label(9)), nops(1025), list(goes(x, 9))))
		want.Op, want.Imm = pair[1], 8
		if e != api.OK || len(far) != 1027 || decoded(t, far[1025]) != want || decoded(t, far[1026]) != (api.Rv{Op: api.RvJal, Imm: -4 * 1026}) {
			t.Errorf("%d far: %d %v", pair[0], len(far), e)
		}
		here, e := asm.Assemble(list(label(9), goes(x, 9)))
		want.Op, want.Imm = pair[0], 0
		if e != api.OK || len(here) != 1 || decoded(t, here[0]) != want {
			t.Errorf("%d to itself: %v %v", pair[0], here, e)
		}
	}
}

func TestAssembleJals(t *testing.T) {
	l := lines(list(label(1), jal(2)), nops(3996), list(jal(1), label(2)))
	w, e := asm.Assemble(l)
	if e != api.OK || len(w) != 3998 {
		t.Fatal(len(w), e)
	}
	if decoded(t, w[0]) != (api.Rv{Op: api.RvJal, Rd: 3, Imm: 4 * 3998}) || decoded(t, w[3997]) != (api.Rv{Op: api.RvJal, Rd: 3, Imm: -4 * 3997}) {
		t.Error(decoded(t, w[0]), decoded(t, w[3997]))
	}
}

func TestAssembleTheLongest(t *testing.T) {
	// All branches but those about the middle are far, so that the last jal goes nearly as far as one can.
	l := list(label(1))
	for range 3998 {
		l = append(l, beq(1))
	}
	l = append(l, jal(1))
	w, e := asm.Assemble(l)
	// The branches from the place 1,025 on are far.
	if e != api.OK || len(w) != 1025+2*(3998-1025)+1 {
		t.Fatal(len(w), e)
	}
	if x := decoded(t, w[len(w)-1]); x != (api.Rv{Op: api.RvJal, Rd: 3, Imm: -4 * (len(w) - 1)}) {
		t.Error(x)
	}
}

// P1 and the rules

func TestArgumentsStay(t *testing.T) {
	l := make([]api.Line, 0, 2000)
	l = append(l, lines(list(beq(1)), nops(1100), list(label(1), jal(1)))...)
	spare := l[:2000]
	for i := len(l); i < 2000; i++ {
		spare[i] = label(5)
	}
	before := slices.Clone(spare)
	p, _ := asm.Places(l)
	w, _ := asm.Assemble(l)
	clear(p[:cap(p)])
	clear(w[:cap(w)])
	asm.Check(l)
	if !slices.Equal(spare, before) {
		t.Error("changed")
	}
	q, _ := asm.Places(l)
	v, _ := asm.Assemble(l)
	if q[1] != 2 || len(q) != len(l)+1 || v[len(v)-1] == 0 {
		t.Error("kept")
	}
}
