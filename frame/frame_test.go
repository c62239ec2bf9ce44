package frame_test

import (
	"math"
	"testing"

	"twinshaft/api"
	"twinshaft/frame"
)

// farInts are numbers that are out of every bound.
func farInts() []int {
	return []int{math.MinInt, math.MinInt + 1, -1 << 32, -65536, -16, -8, -1, 65537, 1 << 32, 1 << 60, 1 << 61, math.MaxInt - 15, math.MaxInt}
}

// noEdges are places at which no frame begins or ends.
func noEdges() []uint64 {
	return []uint64{1, 8, 15, 17, 31, 40, 65, 65535, 65537, 65544, 65552, 1 << 20, 1 << 32, 1 << 63, math.MaxUint64 - 4623, math.MaxUint64 - 15, math.MaxUint64}
}

func wantSize(t *testing.T, regs, area, want int, wantE api.Errno) {
	t.Helper()
	if n, e := frame.Size(regs, area); n != want || e != wantE {
		t.Errorf("Size(%d, %d) is %d %v, not %d %v", regs, area, n, e, want, wantE)
	}
}

func wantFloor(t *testing.T, data int, want uint64, wantE api.Errno) {
	t.Helper()
	if n, e := frame.Floor(data); n != want || e != wantE {
		t.Errorf("Floor(%d) is %d %v, not %d %v", data, n, e, want, wantE)
	}
}

func wantTop(t *testing.T, memory int, want uint64, wantE api.Errno) {
	t.Helper()
	if n, e := frame.Top(memory); n != want || e != wantE {
		t.Errorf("Top(%d) is %d %v, not %d %v", memory, n, e, want, wantE)
	}
}

func wantPush(t *testing.T, at uint64, regs, area int, floor, want uint64, wantE api.Errno) {
	t.Helper()
	if n, e := frame.Push(at, regs, area, floor); n != want || e != wantE {
		t.Errorf("Push(%d, %d, %d, %d) is %d %v, not %d %v", at, regs, area, floor, n, e, want, wantE)
	}
}

func wantPop(t *testing.T, at uint64, regs, area int, want uint64, wantE api.Errno) {
	t.Helper()
	if n, e := frame.Pop(at, regs, area); n != want || e != wantE {
		t.Errorf("Pop(%d, %d, %d) is %d %v, not %d %v", at, regs, area, n, e, want, wantE)
	}
}

// P9.1

func TestSize(t *testing.T) {
	for _, x := range []struct{ regs, area, want int }{
		{3, 5, 32}, {0, 0, 0}, {2, 16, 32},
		{1, 0, 16}, {1, 8, 16}, {1, 9, 32}, {2, 0, 16}, {2, 1, 32}, {0, 1, 16}, {0, 15, 16}, {0, 16, 16}, {0, 17, 32},
		{64, 0, 512}, {63, 0, 512}, {63, 8, 512}, {63, 9, 528}, {0, 4096, 4096}, {0, 4095, 4096}, {1, 4096, 4112}, {64, 4096, 4608}, {63, 4095, 4608},
	} {
		wantSize(t, x.regs, x.area, x.want, api.OK)
	}
}

func TestSizeRefuses(t *testing.T) {
	for _, regs := range append(farInts(), 65, 66, 128, 4096) {
		for _, area := range []int{0, 5, 4096, 4097, -1} {
			wantSize(t, regs, area, 0, api.ErrArg)
		}
	}
	for _, area := range append(farInts(), 4097, 4112, 8192) {
		for _, regs := range []int{0, 3, 64, 65, -1} {
			wantSize(t, regs, area, 0, api.ErrArg)
		}
	}
}

func TestSlot(t *testing.T) {
	for _, x := range []struct {
		at   uint64
		r    int
		want uint64
	}{
		{64, 2, 80}, {64, 0, 64}, {64, 63, 568}, {0, 1, 8}, {65536, 64, 66048},
		{5, 1, 13}, {64, -1, 56}, {0, -1, math.MaxUint64 - 7}, {math.MaxUint64, 1, 7}, {math.MaxUint64 - 7, 1, 0},
		{3, 1 << 61, 3}, {3, math.MaxInt, math.MaxUint64 - 4}, {3, math.MinInt, 3}, {3, 1 << 60, 1<<63 + 3},
	} {
		if n := frame.Slot(x.at, x.r); n != x.want {
			t.Errorf("Slot(%d, %d) is %d, not %d", x.at, x.r, n, x.want)
		}
	}
}

func TestArea(t *testing.T) {
	for _, x := range []struct {
		at      uint64
		regs, n int
		want    uint64
	}{
		{64, 3, 5, 93}, {64, 3, 0, 88}, {64, 0, 0, 64}, {64, 0, 4096, 4160}, {65536, 64, 4096, 70144},
		{64, -1, 5, 61}, {64, 3, -89, math.MaxUint64}, {0, 0, -1, math.MaxUint64}, {math.MaxUint64, 1, 1, 8}, {math.MaxUint64, 0, 1, 0},
		{3, 1 << 61, 7, 10}, {0, math.MinInt, math.MinInt, 1 << 63}, {0, math.MaxInt, math.MaxInt, 1<<63 - 9}, {1 << 63, 1 << 60, 2, 2},
	} {
		if n := frame.Area(x.at, x.regs, x.n); n != x.want {
			t.Errorf("Area(%d, %d, %d) is %d, not %d", x.at, x.regs, x.n, n, x.want)
		}
	}
}

// P9.2

func TestFloor(t *testing.T) {
	for _, x := range []struct {
		data int
		want uint64
	}{{0, 16}, {1, 32}, {2, 32}, {15, 32}, {16, 32}, {17, 48}, {8175, 8192}, {8176, 8192}, {8177, 8208}, {8191, 8208}, {8192, 8208}} {
		wantFloor(t, x.data, x.want, api.OK)
	}
	for _, data := range append(farInts(), 8193, 8208, 65536) {
		wantFloor(t, data, 0, api.ErrArg)
	}
}

func TestTop(t *testing.T) {
	for _, x := range []struct {
		memory int
		want   uint64
	}{{100, 96}, {16, 16}, {17, 16}, {31, 16}, {32, 32}, {33, 32}, {65519, 65504}, {65520, 65520}, {65535, 65520}, {65536, 65536}} {
		wantTop(t, x.memory, x.want, api.OK)
	}
	for _, memory := range append(farInts(), 0, 1, 14, 15, 65552) {
		wantTop(t, memory, 0, api.ErrArg)
	}
}

// P9.3

func TestPush(t *testing.T) {
	for _, x := range []struct {
		at         uint64
		regs, area int
		floor      uint64
		want       uint64
	}{
		{96, 3, 5, 32, 64}, {64, 3, 5, 32, 32},
		{96, 3, 5, 0, 64}, {32, 3, 5, 0, 0}, {96, 3, 5, 64, 64},
		{65536, 64, 4096, 16, 60928}, {65536, 0, 0, 65536, 65536}, {65536, 1, 0, 65520, 65520},
		{0, 0, 0, 0, 0}, {16, 0, 0, 16, 16}, {16, 1, 0, 0, 0}, {4624, 64, 4096, 16, 16},
	} {
		wantPush(t, x.at, x.regs, x.area, x.floor, x.want, api.OK)
	}
}

func TestPushWithoutRoom(t *testing.T) {
	for _, x := range []struct {
		at         uint64
		regs, area int
		floor      uint64
	}{
		{48, 3, 5, 32}, {32, 3, 5, 32}, {16, 3, 5, 32}, {0, 3, 5, 32}, {16, 3, 5, 0}, {0, 3, 5, 0}, {0, 1, 0, 0},
		{32, 0, 0, 48}, {0, 0, 0, 16}, {0, 0, 0, 65536}, {65520, 0, 0, 65536}, {65536, 1, 0, 65536}, {65536, 0, 1, 65536}, {65536, 64, 4096, 60944}, {4608, 64, 4096, 16},
	} {
		wantPush(t, x.at, x.regs, x.area, x.floor, 0, api.ErrFull)
	}
}

func TestPushAtNoEdge(t *testing.T) {
	for _, no := range noEdges() {
		for _, edge := range []uint64{0, 16, 32, 48, 65520, 65536} {
			for _, regs := range []int{0, 3, 64} {
				wantPush(t, no, regs, 5, edge, 0, api.ErrRange)
				wantPush(t, edge, regs, 5, no, 0, api.ErrRange)
				wantPush(t, no, regs, 5, no, 0, api.ErrRange)
			}
		}
	}
	wantPush(t, 40, 3, 5, 32, 0, api.ErrRange)
	wantPush(t, 65552, 0, 0, 65552, 0, api.ErrRange)
	wantPush(t, math.MaxUint64-15, 64, 4096, math.MaxUint64-15, 0, api.ErrRange)
}

func TestPushRefusesTheFrameFirst(t *testing.T) {
	for _, x := range []struct{ regs, area int }{{65, 0}, {-1, 0}, {0, 4097}, {0, -1}, {99, 5}, {65, 4097}, {math.MaxInt, math.MaxInt}, {math.MinInt, 0}, {-1, 8}, {-2, 4096}} {
		for _, at := range append(noEdges(), 0, 16, 96, 65536) {
			for _, floor := range append(noEdges(), 0, 16, 96, 65536) {
				wantPush(t, at, x.regs, x.area, floor, 0, api.ErrArg)
			}
			wantPop(t, at, x.regs, x.area, 0, api.ErrArg)
		}
	}
}

func TestPop(t *testing.T) {
	for _, x := range []struct {
		at         uint64
		regs, area int
		want       uint64
	}{
		{64, 3, 5, 96}, {0, 3, 5, 32}, {16, 0, 0, 16}, {0, 0, 0, 0}, {60928, 64, 4096, 65536},
		{60944, 64, 4096, 65552}, {65536, 0, 0, 65536}, {65536, 1, 0, 65552}, {65536, 64, 4096, 70144},
	} {
		wantPop(t, x.at, x.regs, x.area, x.want, api.OK)
	}
	for _, no := range noEdges() {
		wantPop(t, no, 3, 5, 0, api.ErrRange)
		wantPop(t, no, 0, 0, 0, api.ErrRange)
		wantPop(t, no, 64, 4096, 0, api.ErrRange)
	}
}
