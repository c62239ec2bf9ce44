package interp_test

import (
	"math"
	"reflect"
	"slices"
	"testing"

	"twinshaft/api"
	"twinshaft/deeds"
	"twinshaft/interp"
	"twinshaft/space"
)

// The chapter's examples

func TestExamples(t *testing.T) {
	divides := one(2, api.Ins{Op: api.OpConst, N: 7}, api.Ins{Op: api.OpConst, A: 1}, api.Ins{Op: api.OpDiv, C: 1}, api.Ins{Op: api.OpExit})
	for _, x := range []struct {
		m           api.Module
		in          []byte
		fuel        int
		want        string
		steps, left int
	}{
		{echo(), []byte{65}, 9, "+65 -65 exit 65", 3, 6},
		{echo(), nil, 9, "+-1 -255 exit 255", 3, 6},
		{echo(), nil, 1, "+-1 fuel", 2, 0},
		{echo(), []byte{65}, 1, "+65 fuel", 2, 0},
		{echo(), []byte{65}, 3, "+65 -65 exit 65", 3, 0},
		{echo(), []byte{65}, 0, "fuel", 1, 0},
		{divides, nil, 9, "trap 1", 3, 6},
		{one(0, api.Ins{Op: api.OpJmp}), nil, 0, "fuel", 1, 0},
		{one(0, api.Ins{Op: api.OpJmp}), nil, 77, "fuel", 78, 0},
	} {
		s := fresh(t, x.m, 256, x.in, x.fuel)
		n, e := of(t, x.m).Run(s, 1000)
		if text, f := deeds.Text(s.Outcome()); text != x.want || f != api.OK || n != x.steps || e != api.OK || s.Fuel() != x.left {
			t.Error(text, f, n, e, s.Fuel(), "not", x.want, x.steps, x.left)
		}
	}
}

// P16.3

func TestRunCounts(t *testing.T) {
	x := of(t, echo())
	for _, c := range []struct{ most, steps, place int }{
		{math.MinInt, 0, 0}, {-1, 0, 0}, {0, 0, 0}, {1, 1, 2}, {2, 2, 4}, {3, 3, 4}, {4, 3, 4}, {math.MaxInt, 3, 4},
	} {
		s := fresh(t, echo(), 256, []byte{65}, 9)
		n, e := x.Run(s, c.most)
		_, ended := s.End()
		if n != c.steps || e != api.OK || s.Fuel() != 9-c.steps || s.Place() != c.place || ended != (c.steps == 3) {
			t.Error(c, n, e, s.Fuel(), s.Place(), ended)
		}
		rest, e := x.Run(s, math.MaxInt)
		if rest != 3-c.steps || e != api.OK || s.Fuel() != 6 {
			t.Error(c, "rest", rest, e, s.Fuel())
		}
		before := s.Copy()
		for _, most := range []int{-1, 0, 1, 9} {
			if n, e := x.Run(s, most); n != 0 || e != api.OK || !s.Same(before) {
				t.Error("a run of what has ended", n, e)
			}
		}
	}
}

// TestRunIsRefused runs a module in a space of another one, in which the third register does not exist.
func TestRunIsRefused(t *testing.T) {
	m := one(3, api.Ins{Op: api.OpConst}, api.Ins{}, api.Ins{Op: api.OpGetb, A: 1}, api.Ins{Op: api.OpConst, A: 2}, api.Ins{Op: api.OpExit})
	x := of(t, m)
	for _, most := range []int{3, 4, 5, math.MaxInt} {
		s := fresh(t, one(2, api.Ins{Op: api.OpJmp}), 256, []byte{65}, 9)
		n, e := x.Run(s, most)
		want := api.ErrArg
		if most == 3 {
			want = api.OK
		}
		if n != 3 || e != want || s.Fuel() != 6 || s.Place() != 13 || len(s.Outcome().Deeds) != 1 {
			t.Error(most, n, e, s.Fuel(), s.Place(), s.Outcome())
		}
		if again, e := x.Run(s, most); again != 0 || e != api.ErrArg {
			t.Error(most, again, e)
		}
	}
}

// P16.4 and P16.5

// changed are the bytes of memory that a step changed.
func changed(before, after []byte) []int {
	var out []int
	for n := range before {
		if before[n] != after[n] {
			out = append(out, n)
		}
	}
	return out
}

// within reports whether all of these are in n bytes at a place, which are counted from 16 on.
func within(all []int, place, n int) bool {
	return !slices.ContainsFunc(all, func(at int) bool { return at+16 < place || at+16 >= place+n })
}

// changesLittle checks that a step did not change more memory than it may.
func changesLittle(t *testing.T, x *model, i api.Ins, before, after seen) {
	t.Helper()
	all := changed(before.memory, after.memory)
	switch {
	case i.Op == api.OpCall && after.depth == before.depth+1:
		if !within(all, int(after.at), 8*x.m.Funcs[i.N].Params) {
			t.Fatal(i, "changes", all)
		}
	case i.Op == api.OpStore:
		if len(all) > 0 && !within(all, all[0]+16, i.N) {
			t.Fatal(i, "changes", all)
		}
	case len(all) > 0:
		first := (all[0] + 16) / 8 * 8
		if !within(all, first, 8) || first < int(after.at) || first >= int(after.at)+8*x.m.Funcs[after.function].Regs {
			t.Fatal(i, "changes", all)
		}
	}
}

func TestMixedRuns(t *testing.T) {
	m := mixed(16)
	var went [api.Ops]int
	met := map[api.Ending]int{}
	deep := 0
	for range 3000 {
		program := m.module()
		memory, fuel := 80+16*m.below(40), m.below(150)
		x, s, want := of(t, program), fresh(t, program, memory, []byte{1, 255, 0}, fuel), modelOf(program, memory, []byte{1, 255, 0}, fuel)
		agree(t, "a new space", x, s, want)
		steps := 0
		for want.end.Kind == 0 {
			before, fuelless := looked(s), want.fuel == 0
			i, _ := want.instruction()
			want.step()
			if e := x.Step(s); e != api.OK {
				t.Fatal("a step is refused:", i, e)
			}
			agree(t, "a step of a mixed run", x, s, want)
			after := looked(s)
			if fuelless && (!reflect.DeepEqual(after.memory, before.memory) || after.outcome.End.Kind != api.EndFuel) || !fuelless && after.fuel != before.fuel-1 {
				t.Fatal(i, "burns", before.fuel, after.fuel)
			}
			changesLittle(t, want, i, before, after)
			deep = max(deep, s.Depth())
			steps++
		}
		if steps > fuel+1 {
			t.Fatal(steps, "steps with the fuel", fuel)
		}
		if want.end.Kind == api.EndExit {
			want.end.Code = 0
		}
		met[want.end]++
		for op, n := range want.went {
			went[op] += n
		}
	}
	for op, n := range went {
		if n < 150 {
			t.Error("the runs are too plain:", op, n)
		}
	}
	for _, end := range []api.Ending{{Kind: api.EndExit}, {Kind: api.EndTrap, Code: api.TrapDiv}, {Kind: api.EndTrap, Code: api.TrapReach}, {Kind: api.EndStack}, {Kind: api.EndFuel}} {
		if met[end] < 25 {
			t.Error("the runs end too seldom so:", end, met[end])
		}
	}
	if deep < 10 {
		t.Error("the runs are not deep:", deep)
	}
}

func TestMixedPieces(t *testing.T) {
	m := mixed(17)
	for range 1000 {
		program := m.module()
		fuel := m.below(300)
		x, s, want := of(t, program), fresh(t, program, 400, []byte{5, 6}, fuel), modelOf(program, 400, []byte{5, 6}, fuel)
		for want.end.Kind == 0 {
			most := m.below(30)
			n, e := x.Run(s, most)
			if steps := want.run(most); n != steps || e != api.OK {
				t.Fatal(program, most, n, e, "not", steps)
			}
			agree(t, "a piece of a mixed run", x, s, want)
		}
	}
}

// ran is a whole run.
func ran(t *testing.T, x *interp.Interp, m api.Module, fuel int) *space.Space {
	t.Helper()
	s := fresh(t, m, 400, []byte{5, 6}, fuel)
	n, e := x.Run(s, math.MaxInt)
	if _, ended := s.End(); !ended || e != api.OK || n > fuel+1 {
		t.Fatal(m, n, e)
	}
	return s
}

func TestMoreFuelDoesMore(t *testing.T) {
	m := mixed(18)
	more := 0
	for range 1000 {
		program := m.module()
		// Each has done other runs before.
		x, y := of(t, program), of(t, program)
		ran(t, y, program, 200)
		last := ran(t, x, program, 0)
		for fuel := range 60 {
			next := ran(t, x, program, fuel)
			if !next.Same(ran(t, y, program, fuel)) {
				t.Fatal("the same run is another one")
			}
			if !deeds.Begins(last.Outcome(), next.Outcome()) {
				t.Fatal(program, fuel, last.Outcome(), next.Outcome())
			}
			if end, _ := last.End(); end.Kind != api.EndFuel && !deeds.Same(last.Outcome(), next.Outcome()) {
				t.Fatal(program, fuel, last.Outcome(), next.Outcome())
			}
			if len(next.Outcome().Deeds) > len(last.Outcome().Deeds) {
				more++
			}
			last = next
		}
	}
	if more < 1000 {
		t.Error("the runs are too plain:", more)
	}
}

// TestGreatRun burns all the fuel that there can be.
func TestGreatRun(t *testing.T) {
	m := one(1, api.Ins{Op: api.OpGetb}, api.Ins{Op: api.OpAdd}, api.Ins{Op: api.OpJmp, N: 2})
	s := fresh(t, m, 256, []byte{1}, 10_000_000)
	n, e := of(t, m).Run(s, math.MaxInt)
	if end, _ := s.End(); n != 10_000_001 || e != api.OK || end.Kind != api.EndFuel || s.Fuel() != 0 {
		t.Error(n, e, end, s.Fuel())
	}
}

// TestManyDeeds fills the tape by steps.
func TestManyDeeds(t *testing.T) {
	m := one(1, api.Ins{Op: api.OpGetb}, api.Ins{Op: api.OpPutb}, api.Ins{Op: api.OpJmp, N: 2})
	s := fresh(t, m, 256, []byte{1}, 1_000_000)
	n, e := of(t, m).Run(s, math.MaxInt)
	if end, _ := s.End(); n != 200_000 || e != api.OK || end.Kind != api.EndFuel || s.Fuel() != 800_000 || len(s.Outcome().Deeds) != 100_000 || s.Place() != 2 {
		t.Error(n, e, end, s.Fuel(), s.Place())
	}
}

// TestStackOfLinks has room for more frames than links.
func TestStackOfLinks(t *testing.T) {
	m := endless(0)
	x, want := of(t, m), modelOf(m, 65_536, nil, 1000)
	s := fresh(t, m, 65_536, nil, 1000)
	n, e := x.Run(s, math.MaxInt)
	if steps := want.run(math.MaxInt); n != steps || n != 257 || e != api.OK || s.Depth() != 256 {
		t.Error(n, e, s.Depth())
	}
	agree(t, "all links", x, s, want)
}
