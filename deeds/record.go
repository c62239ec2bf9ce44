package deeds

import (
	"iter"
	"math"
	"strconv"

	"twinshaft/api"
)

// record is deeds, one after the other.
type record []api.Deed

// all passes the deeds on, in order.
func (r record) all() iter.Seq[deed] {
	return func(yield func(deed) bool) {
		for _, d := range r {
			if !yield(deed(d)) {
				return
			}
		}
	}
}

// valid reports whether each deed is one, and none gets a byte where there was none any more.
func (r record) valid() bool {
	over := false
	for d := range r.all() {
		if !d.valid() || over && d.gotByte() {
			return false
		}
		over = over || d.gotNothing()
	}
	return true
}

// deed is one of a record.
type deed api.Deed

func (d deed) valid() bool {
	return d.gotByte() || d.gotNothing() || d.putByte()
}

func (d deed) gotByte() bool {
	return d.Kind == api.DeedGot && isByte(d.B)
}

func (d deed) gotNothing() bool {
	return d.Kind == api.DeedGot && d.B == nothing
}

func (d deed) putByte() bool {
	return d.Kind == api.DeedPut && isByte(d.B)
}

func isByte(n int) bool {
	return n >= 0 && n <= math.MaxUint8
}

// text is the text of a valid deed, by its kind.
func (d deed) text() string {
	if d.Kind == api.DeedPut {
		return d.putText()
	}
	return d.gotText()
}

func (d deed) gotText() string {
	return "+" + strconv.Itoa(d.B)
}

func (d deed) putText() string {
	return "-" + strconv.Itoa(d.B)
}

// ending is what stands after a record.
type ending api.Ending

func (e ending) valid() bool {
	switch e.Kind {
	case api.EndExit:
		return isByte(e.Code)
	case api.EndTrap:
		return e.Code == api.TrapDiv || e.Code == api.TrapReach
	case api.EndStack, api.EndFuel:
		return e.Code == 0
	}
	return false
}

// text is the text of a valid ending, by its kind.
func (e ending) text() string {
	switch e.Kind {
	case api.EndExit:
		return "exit " + strconv.Itoa(e.Code)
	case api.EndTrap:
		return "trap " + strconv.Itoa(e.Code)
	case api.EndStack:
		return "stack"
	}
	return "fuel"
}

// sink takes a text piece by piece, as a strings.Builder does, which has never an error to tell.
type sink interface {
	WriteString(piece string) (int, error)
}

// write writes the text of a valid outcome.
func write(to sink, x api.Outcome) {
	for d := range record(x.Deeds).all() {
		to.WriteString(d.text() + " ")
	}
	to.WriteString(ending(x.End).text())
}
