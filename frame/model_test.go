package frame_test

import (
	"math/big"
	"testing"

	"twinshaft/api"
	"twinshaft/frame"
)

// sum tells a number without bounds: at, plus 8 times regs, plus n.
func sum(at uint64, regs, n int) *big.Int {
	all := new(big.Int).SetUint64(at)
	all.Add(all, new(big.Int).Mul(big.NewInt(8), big.NewInt(int64(regs))))
	return all.Add(all, big.NewInt(int64(n)))
}

// word tells what of a number remains modulo 2^64.
func word(n *big.Int) uint64 {
	return new(big.Int).Mod(n, new(big.Int).Lsh(big.NewInt(1), 64)).Uint64()
}

// above counts up from n to the next multiple of sixteen, and below down.
func above(n int) int {
	for n%16 != 0 {
		n++
	}
	return n
}

func below(n int) int {
	for n%16 != 0 {
		n--
	}
	return n
}

// pushed tells what Push answers, by the chapter's words.
func pushed(at uint64, regs, area int, floor uint64) (uint64, api.Errno) {
	if regs < 0 || regs > 64 || area < 0 || area > 4096 {
		return 0, api.ErrArg
	}
	if at%16 != 0 || floor%16 != 0 || at > 65536 || floor > 65536 {
		return 0, api.ErrRange
	}
	size := above(8*regs + area)
	if int(at) < int(floor)+size {
		return 0, api.ErrFull
	}
	return uint64(int(at) - size), api.OK
}

// mixed tells numbers that look mixed, always the same ones.
type mixed uint64

func (m *mixed) word() uint64 {
	*m = *m*6364136223846793005 + 1442695040888963407
	return uint64(*m) ^ uint64(*m)>>29
}

func (m *mixed) below(n int) int { return int(m.word()>>33) % n }

// place is an edge of a frame in most cases.
func (m *mixed) place() uint64 {
	switch m.below(12) {
	case 0:
		return uint64(m.below(70000))
	case 1:
		return m.word()
	case 2:
		return m.word() &^ 15
	}
	return uint64(16 * m.below(4098))
}

// most is a number up to n in most cases.
func (m *mixed) most(n int) int {
	if m.below(20) == 0 {
		return m.below(3*n) - n
	}
	return m.below(n + 1)
}

// P9.1 to P9.3

func TestSizeLikeTheModel(t *testing.T) {
	for regs := range 67 {
		for area := range 4099 {
			want, wantE := above(8*regs+area), api.OK
			if regs > 64 || area > 4096 {
				want, wantE = 0, api.ErrArg
			}
			wantSize(t, regs, area, want, wantE)
		}
	}
}

func TestPlacesLikeTheModel(t *testing.T) {
	var m mixed
	for range 50000 {
		at, regs, n := m.word(), int(m.word()), int(m.word())
		if m.below(2) == 0 {
			at, regs, n = uint64(m.below(70000)), m.below(200)-100, m.below(10000)-5000
		}
		if got, want := frame.Slot(at, regs), word(sum(at, regs, 0)); got != want {
			t.Fatalf("Slot(%d, %d) is %d, not %d", at, regs, got, want)
		}
		if got, want := frame.Area(at, regs, n), word(sum(at, regs, n)); got != want {
			t.Fatalf("Area(%d, %d, %d) is %d, not %d", at, regs, n, got, want)
		}
	}
}

func TestFloorAndTopLikeTheModel(t *testing.T) {
	for data := range 8193 {
		wantFloor(t, data, uint64(above(16+data)), api.OK)
	}
	for memory := 16; memory <= 65536; memory++ {
		wantTop(t, memory, uint64(below(memory)), api.OK)
	}
}

func TestPushAndPopLikeTheModel(t *testing.T) {
	var m mixed
	met := map[api.Errno]int{}
	for range 200000 {
		at, floor, regs, area := m.place(), m.place(), m.most(64), m.most(4096)
		want, wantE := pushed(at, regs, area, floor)
		wantPush(t, at, regs, area, floor, want, wantE)
		met[wantE]++
		back, backE := uint64(0), api.ErrArg
		if n, e := frame.Size(regs, area); e == api.OK {
			back, backE = at+uint64(n), api.OK
			if at%16 != 0 || at > 65536 {
				back, backE = 0, api.ErrRange
			}
		}
		wantPop(t, at, regs, area, back, backE)
		if t.Failed() {
			return
		}
	}
	for _, e := range []api.Errno{api.OK, api.ErrArg, api.ErrRange, api.ErrFull} {
		if met[e] < 1000 {
			t.Errorf("%v met %d times only", e, met[e])
		}
	}
}

// P9.4

// stack is frames, one below the other; each byte of the memory is owned by at most one register, or byte of an area.
type stack struct {
	t          *testing.T
	top, floor uint64
	owned      []bool
	ends       []uint64
	sizes      [][2]int
}

func newStack(t *testing.T, memory, data int) *stack {
	t.Helper()
	top, e := frame.Top(memory)
	floor, f := frame.Floor(data)
	if e != api.OK || f != api.OK || top > uint64(memory) || floor < uint64(16+data) {
		t.Fatal(memory, top, e, data, floor, f)
	}
	return &stack{t: t, top: top, floor: floor, owned: make([]bool, memory), ends: []uint64{top}}
}

// own marks bytes that must be within the frame from begin to end, and nobody else's.
func (s *stack) own(from uint64, size int, begin, end uint64) {
	s.t.Helper()
	for at := from; at < from+uint64(size); at++ {
		if at < begin || at >= end || at < s.floor || s.owned[at] {
			s.t.Fatalf("the byte %d of a frame from %d to %d above %d", at, begin, end, s.floor)
		}
		s.owned[at] = true
	}
}

// push lays a frame, and reports whether there was room.
func (s *stack) push(regs, area int) bool {
	s.t.Helper()
	end := s.ends[len(s.ends)-1]
	size, _ := frame.Size(regs, area)
	begin, e := frame.Push(end, regs, area, s.floor)
	if e == api.ErrFull && end < s.floor+uint64(size) {
		return false
	}
	if e != api.OK || begin%16 != 0 || begin < s.floor || begin+uint64(size) != end {
		s.t.Fatalf("a frame of %d and %d from %d to %d above %d: %v", regs, area, begin, end, s.floor, e)
	}
	for r := range regs {
		s.own(frame.Slot(begin, r), 8, begin, end)
	}
	for n := range area {
		s.own(frame.Area(begin, regs, n), 1, begin, end)
	}
	s.ends, s.sizes = append(s.ends, begin), append(s.sizes, [2]int{regs, area})
	return true
}

// popAll takes all frames away, the lowest first.
func (s *stack) popAll() {
	s.t.Helper()
	for n := len(s.sizes) - 1; n >= 0; n-- {
		end, e := frame.Pop(s.ends[n+1], s.sizes[n][0], s.sizes[n][1])
		if e != api.OK || end != s.ends[n] {
			s.t.Fatalf("the frame at %d ends at %d, not at %d: %v", s.ends[n+1], end, s.ends[n], e)
		}
	}
}

func TestFramesShareNoByte(t *testing.T) {
	var m mixed
	full, all := 0, 0
	for range 400 {
		s := newStack(t, 16+m.below(65521), m.below(8193))
		regs, area := 1+m.below(64), 1+m.below(4096)
		if m.below(2) == 0 {
			area = 1 + m.below(100)
		}
		for range 300 {
			all++
			if !s.push(m.below(regs), m.below(area)) {
				full++
				break
			}
		}
		s.popAll()
	}
	if full < 100 || all < 4000 {
		t.Errorf("%d frames, %d times no room", all, full)
	}
}

func TestEachFrameIsPopped(t *testing.T) {
	for regs := range 65 {
		for _, area := range []int{0, 1, 7, 8, 9, 15, 16, 17, 24, 100, 4080, 4081, 4088, 4089, 4095, 4096} {
			s := newStack(t, 16+2*4608, 0)
			if !s.push(regs, area) || !s.push(regs, area) {
				t.Fatalf("no room for two frames of %d and %d", regs, area)
			}
			s.popAll()
		}
	}
}
