package space_test

import (
	"testing"

	"twinshaft/api"
	"twinshaft/space"
)

// pair is a space and its model.
type pair struct {
	s *space.Space
	x *modelSpace
}

// do does one mixed thing with both, and checks that both say the same.
func (p pair) do(t *testing.T, m *mixed) {
	t.Helper()
	switch m.below(12) {
	case 0, 1, 2:
		f := m.below(len(p.x.m.Funcs)+1) - m.below(30)/29
		params := 0
		if f >= 0 && f < len(p.x.m.Funcs) {
			params = p.x.m.Funcs[f].Params
		}
		args, result, back := m.registers(p.x, params+m.below(12)/11), m.registers(p.x, 1)[0], m.below(4097)-m.below(90)/89
		before := append([]int{}, args...)
		want := p.x.call(f, args, result, back)
		if got := p.s.Call(f, args, result, back); got != want {
			t.Fatalf("Call(%d, %v, %d, %d): %v, not %v", f, args, result, back, got, want)
		}
		for i := range args {
			if args[i] != before[i] {
				t.Fatal("Call changes its args")
			}
		}
	case 3, 4:
		v := m.number()
		want := p.x.returns(v)
		if got := p.s.Return(v); got != want {
			t.Fatalf("Return(%d): %v, not %v", v, got, want)
		}
	case 5, 6:
		r, v := m.registers(p.x, 1)[0], m.number()
		want := p.x.set(r, v)
		if got := p.s.Set(r, v); got != want {
			t.Fatalf("Set(%d, %d): %v, not %v", r, v, got, want)
		}
	case 7:
		place := m.below(4098) - m.below(50)/49
		want := p.x.goes(place)
		if got := p.s.Go(place); got != want {
			t.Fatalf("Go(%d): %v, not %v", place, got, want)
		}
	case 8:
		n := m.below(12) - 1
		want := p.x.burn(n)
		if got := p.s.Burn(n); got != want {
			t.Fatalf("Burn(%d): %v, not %v", n, got, want)
		}
	case 9:
		want, e := p.x.getb()
		if got, f := p.s.Getb(); got != want || f != e {
			t.Fatalf("Getb(): %d %v, not %d %v", got, f, want, e)
		}
		b := m.below(2000) - 1000
		e = p.x.putb(b)
		if f := p.s.Putb(b); f != e {
			t.Fatalf("Putb(%d): %v, not %v", b, f, e)
		}
	case 10:
		at, b := m.below(len(p.x.memory)), byte(m.below(256))
		if at >= 16 {
			p.x.memory[at] = b
			p.s.Memory().Store(uint64(at), 1, uint64(b))
		}
	case 11:
		if m.below(12) > 0 {
			return
		}
		e := api.Ending{Kind: m.below(6), Code: m.below(5) - 1}
		want := p.x.stop(e)
		if got := p.s.Stop(e); got != want {
			t.Fatalf("Stop(%v): %v, not %v", e, got, want)
		}
	}
}

// P15.1 to P15.6

func TestMixedRuns(t *testing.T) {
	m := mixed(15)
	calls, deep, stacks := 0, 0, 0
	for range 3000 {
		program, memory, fuel := m.module(), 16+16*m.below(30), m.below(100)
		x, want := modelNew(program, memory, []byte{1, 2, 3, 255}, fuel)
		s, got := space.New(program, memory, []byte{1, 2, 3, 255}, fuel)
		if got != want || (s == nil) != (x == nil) {
			t.Fatal(program, memory, got, want)
		}
		if s == nil {
			continue
		}
		p := pair{s, x}
		for range 40 {
			p.do(t, &m)
			agree(t, "a step of a mixed run", s, x)
			calls, deep = calls+s.Depth(), max(deep, s.Depth())
		}
		if x.end.Kind == api.EndStack {
			stacks++
		}
	}
	if calls < 10_000 || deep < 6 || stacks < 200 {
		t.Error("the runs are too plain:", calls, deep, stacks)
	}
}

func TestMixedCopies(t *testing.T) {
	m := mixed(16)
	equal, unequal := 0, 0
	for range 400 {
		program := m.module()
		s, e := space.New(program, 320, []byte{9, 9, 9, 9, 9, 9}, 60)
		x, _ := modelNew(program, 320, []byte{9, 9, 9, 9, 9, 9}, 60)
		if e != api.OK {
			t.Fatal(e)
		}
		all := []pair{{s, x}}
		for range 60 {
			from := all[m.below(len(all))]
			if len(all) < 6 && m.below(5) == 0 {
				all = append(all, pair{from.s.Copy(), from.x.copied()})
			}
			from.do(t, &m)
			for _, p := range all {
				agree(t, "one of several copies", p.s, p.x)
				want := p.x.same(from.x)
				if p.s.Same(from.s) != want || from.s.Same(p.s) != want {
					t.Fatalf("Same: not %v:\n%+v\n%+v", want, p.x.seen(), from.x.seen())
				}
				if p.s != from.s && want {
					equal++
				} else if !want {
					unequal++
				}
			}
		}
	}
	if equal < 2000 || unequal < 2000 {
		t.Error("the copies are too plain:", equal, unequal)
	}
}

func TestCopiesDoTheSame(t *testing.T) {
	m := mixed(17)
	for range 500 {
		program := m.module()
		s, e := space.New(program, 400, []byte{4, 5, 6}, 60)
		x, _ := modelNew(program, 400, []byte{4, 5, 6}, 60)
		if e != api.OK {
			t.Fatal(e)
		}
		for range m.below(20) {
			pair{s, x}.do(t, &m)
		}
		c, y, again := s.Copy(), x.copied(), m
		for range 30 {
			pair{s, x}.do(t, &m)
			pair{c, y}.do(t, &again)
			if !s.Same(c) || !c.Same(s) {
				t.Fatal("a copy does not do the same")
			}
		}
	}
}
