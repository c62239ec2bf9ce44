package deeds_test

import (
	"bytes"
	"math"
	"slices"
	"testing"

	"twinshaft/api"
	"twinshaft/deeds"
)

// most is how many deeds there may be.
const most = 100_000

func got(b int) api.Deed { return api.Deed{Kind: api.DeedGot, B: b} }

func put(b int) api.Deed { return api.Deed{Kind: api.DeedPut, B: b} }

// pattern is bytes that differ from their neighbours.
func pattern(n int) []byte {
	var out []byte
	for i := range n {
		out = append(out, byte(i*37%251+5))
	}
	return out
}

// wantGot gets from a tape, and checks what that is.
func wantGot(t *testing.T, x *deeds.Tape, want int) {
	t.Helper()
	if b, e := x.Get(); b != want || e != api.OK {
		t.Fatalf("Get: %d %v, not %d", b, e, want)
	}
}

func wantPut(t *testing.T, x *deeds.Tape, b int) {
	t.Helper()
	if e := x.Put(b); e != api.OK {
		t.Fatalf("Put(%d): %v", b, e)
	}
}

// holds checks what was done to a tape, and how much is left.
func holds(t *testing.T, x *deeds.Tape, left int, want ...api.Deed) {
	t.Helper()
	if have := x.Deeds(); !slices.Equal(have, want) || x.Left() != left {
		t.Fatalf("%v, left %d, not %v, left %d", have, x.Left(), want, left)
	}
}

// P14.1

func TestNewStandsAtTheBeginning(t *testing.T) {
	for _, n := range []int{0, 1, 2, 255, 256, 65536, most + 1} {
		x := deeds.New(pattern(n))
		if x == nil {
			t.Fatal("none of", n)
		}
		holds(t, x, n)
	}
	holds(t, deeds.New(nil), 0)
}

func TestNewForgetsItsArgument(t *testing.T) {
	whole := pattern(6)
	x := deeds.New(whole[1:3])
	y := deeds.New(whole[1:3])
	want := slices.Clone(whole)
	for n := range whole {
		whole[n] = 200
	}
	wantGot(t, x, int(want[1]))
	wantGot(t, x, int(want[2]))
	wantGot(t, x, -1)
	wantPut(t, x, 9)
	if !bytes.Equal(whole, slices.Repeat([]byte{200}, 6)) {
		t.Error(whole)
	}
	holds(t, y, 2)
	wantGot(t, y, int(want[1]))
}

func TestGetTellsEachByte(t *testing.T) {
	var all []byte
	var want []api.Deed
	for b := range 256 {
		all = append(all, byte(b))
	}
	x := deeds.New(all)
	for b := range 256 {
		wantGot(t, x, b)
		want = append(want, got(b))
		holds(t, x, 255-b, want...)
	}
	for range 3 {
		wantGot(t, x, -1)
		want = append(want, got(-1))
		holds(t, x, 0, want...)
	}
}

func TestPutIsModulo256(t *testing.T) {
	x := deeds.New([]byte{1})
	var want []api.Deed
	once := func(b, low int) {
		wantPut(t, x, b)
		want = append(want, put(low))
	}
	for b := -1024; b < 1024; b++ {
		once(b, (b+1024)%256)
	}
	for _, base := range []int{1 << 16, 1 << 31, 1 << 32, 1 << 62, -1 << 31, -1 << 62} {
		for low := range 256 {
			once(base+low, low)
		}
	}
	once(math.MaxInt, 255)
	once(math.MaxInt-255, 0)
	once(math.MinInt, 0)
	once(math.MinInt+1, 1)
	holds(t, x, 1, want...)
	wantGot(t, x, 1)
}

func TestPutAndGetTakeTurns(t *testing.T) {
	x := deeds.New([]byte{0, 255})
	wantPut(t, x, 3)
	wantGot(t, x, 0)
	wantPut(t, x, 0)
	wantPut(t, x, 255)
	wantGot(t, x, 255)
	wantGot(t, x, -1)
	wantPut(t, x, -1)
	holds(t, x, 0, put(3), got(0), put(0), put(255), got(255), got(-1), put(255))
}

// fill does so many deeds to a tape, of which each third one gets a byte.
func fill(t *testing.T, x *deeds.Tape, many int) {
	t.Helper()
	for n := range many {
		e := api.OK
		if n%3 == 0 {
			_, e = x.Get()
		} else {
			e = x.Put(n)
		}
		if e != api.OK {
			t.Fatal(n, e)
		}
	}
}

// full checks that a tape refuses everything, and that this changes nothing.
func full(t *testing.T, x *deeds.Tape) {
	t.Helper()
	before, left := x.Deeds(), x.Left()
	if len(before) != most {
		t.Fatal(len(before))
	}
	for range 3 {
		if b, e := x.Get(); b != 0 || e != api.ErrFull {
			t.Error("Get", b, e)
		}
		if e := x.Put(1); e != api.ErrFull {
			t.Error("Put", e)
		}
	}
	holds(t, x, left, before...)
}

func TestFullTapes(t *testing.T) {
	for _, left := range []int{0, 10, most} {
		x := deeds.New(pattern(left))
		fill(t, x, most-1)
		y := x.Copy()
		wantPut(t, x, 1)
		full(t, x)
		full(t, x.Copy())
		want := -1
		if had := y.Left(); had > 0 {
			want = int(pattern(left)[left-had])
		}
		wantGot(t, y, want)
		full(t, y)
	}
}

func TestFullOfBytesThatAreGot(t *testing.T) {
	in := pattern(most + 1)
	x := deeds.New(in)
	for _, b := range in[:most] {
		wantGot(t, x, int(b))
	}
	full(t, x)
	if x.Left() != 1 {
		t.Error(x.Left())
	}
}

// TestDeedsAreNew spoils all of an answer, with the room behind it: neither the tape nor another answer sees that, and nothing that is done later is seen there.
func TestDeedsAreNew(t *testing.T) {
	x := deeds.New(nil)
	var want []api.Deed
	for many := range 40 {
		a, b := x.Deeds(), x.Deeds()
		whole := a[:cap(a)]
		for n := range whole {
			whole[n] = put(99)
		}
		if !slices.Equal(b, want) {
			t.Fatal("two answers share their deeds", b)
		}
		wantPut(t, x, many)
		want = append(want, put(many))
		holds(t, x, 0, want...)
		for n, d := range whole {
			if d != put(99) {
				t.Fatal("a later deed is seen in an earlier answer", many, n, d)
			}
		}
	}
}

func TestCopyIsIndependent(t *testing.T) {
	for many := range 20 { // with deeds of each number, so that there is room for more behind some of them
		x := deeds.New(pattern(30))
		fill(t, x, many)
		before, left := x.Deeds(), x.Left()
		y := x.Copy()
		if y == nil || y == x {
			t.Fatal(y)
		}
		holds(t, y, left, before...)
		wantPut(t, x, 100)
		holds(t, y, left, before...)
		next := int(pattern(30)[30-left])
		wantGot(t, y, next)
		wantPut(t, y, 101)
		holds(t, x, left, append(before, put(100))...)
		holds(t, y, left-1, append(before, got(next), put(101))...)
		z := y.Copy()
		wantGot(t, x, next)
		wantPut(t, z, 102)
		holds(t, x, left-1, append(before, put(100), got(next))...)
		holds(t, y, left-1, append(before, got(next), put(101))...)
		holds(t, z, left-1, append(before, got(next), put(101), put(102))...)
	}
}

func TestInvalidTapes(t *testing.T) {
	shared := *deeds.New([]byte{1, 2, 3})
	used := deeds.New([]byte{1, 2, 3})
	wantPut(t, used, 5)
	copied := *used
	for n, x := range []*deeds.Tape{nil, {}, &shared, &copied} {
		for range 2 {
			if b, e := x.Get(); b != 0 || e != api.ErrNil {
				t.Error(n, "Get", b, e)
			}
			for _, b := range []int{0, 1, -1, 256} {
				if e := x.Put(b); e != api.ErrNil {
					t.Error(n, "Put", b, e)
				}
			}
			if x.Deeds() != nil || x.Left() != 0 || x.Copy() != nil {
				t.Error(n, "is one", x.Deeds(), x.Left(), x.Copy())
			}
		}
	}
	holds(t, used, 3, put(5))
}

func TestAFullTapeThatIsInvalid(t *testing.T) {
	x := deeds.New(nil)
	fill(t, x, most)
	y := *x
	if b, e := y.Get(); b != 0 || e != api.ErrNil {
		t.Error("Get", b, e)
	}
	if e := y.Put(1); e != api.ErrNil {
		t.Error("Put", e)
	}
}

// P14.3

// TestWhatIsGotIsTheBytes has deeds of both kinds in turns that look mixed.
func TestWhatIsGotIsTheBytes(t *testing.T) {
	for n := range 200 {
		m := mixed(n)
		in := pattern(m.below(40))
		x := deeds.New(in)
		var model, gotten []int
		for range m.below(80) {
			if m.below(3) == 0 {
				wantPut(t, x, m.below(1000)-500)
				continue
			}
			b, e := x.Get()
			if e != api.OK {
				t.Fatal(e)
			}
			gotten = append(gotten, b)
		}
		for at := range gotten {
			b := -1
			if at < len(in) {
				b = int(in[at])
			}
			model = append(model, b)
		}
		if !slices.Equal(gotten, model) || x.Left() != max(0, len(in)-len(gotten)) {
			t.Fatal(gotten, model, x.Left())
		}
	}
}

// TestTapesLikeTheModel does calls that look mixed to several tapes, which are copied on the way, and holds all of them against plain lists.
func TestTapesLikeTheModel(t *testing.T) {
	for n := range 200 {
		m := mixed(n)
		in := pattern(m.below(12))
		tapes, models := []*deeds.Tape{deeds.New(in)}, []modelTape{{in: in}}
		for range 60 {
			k := m.below(len(tapes))
			b := m.below(1024) - 512
			switch m.below(8) {
			case 0:
				tapes = append(tapes, tapes[k].Copy())
				models = append(models, models[k].copied())
			case 1, 2, 3:
				wantPut(t, tapes[k], b)
				models[k].put(b)
			default:
				wantGot(t, tapes[k], models[k].get())
			}
			for k, x := range tapes {
				holds(t, x, models[k].left(), models[k].done...)
			}
		}
	}
}

// TestACopyDoesTheSame does the same calls to a tape and its copy.
func TestACopyDoesTheSame(t *testing.T) {
	for n := range 200 {
		m := mixed(n)
		x := deeds.New(pattern(m.below(20)))
		fill(t, x, m.below(20))
		y := x.Copy()
		for range 30 {
			if m.below(2) == 0 {
				b := m.below(600) - 300
				if e, f := x.Put(b), y.Put(b); e != f {
					t.Fatal(e, f)
				}
			} else {
				b, e := x.Get()
				c, f := y.Get()
				if b != c || e != f {
					t.Fatal(b, c, e, f)
				}
			}
			holds(t, y, x.Left(), x.Deeds()...)
		}
	}
}

// TestATapeWithAnEndingIsValid: whatever is done to a tape, with any valid ending it is an outcome.
func TestATapeWithAnEndingIsValid(t *testing.T) {
	x := deeds.New(pattern(100))
	ends := endings()
	for n := range most/200 + 1 {
		end := ends[n%len(ends)]
		if e := deeds.Check(api.Outcome{Deeds: x.Deeds(), End: end}); e != api.OK {
			t.Fatal(n, end, e)
		}
		fill(t, x, min(200, most-n*200))
	}
	full(t, x)
}
