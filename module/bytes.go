package module

import (
	"bytes"

	"twinshaft/api"
	"twinshaft/code"
	"twinshaft/word"
)

// mark is what a module's bytes begin with.
func mark() []byte {
	return []byte{84, 87, 1}
}

// written are the bytes of a valid module, whose functions have these bytes of code.
func written(m api.Module, codes [][]byte) []byte {
	out := append(mark(), low(len(m.Data), 2)...)
	out = append(out, m.Data...)
	out = append(out, low(len(m.Funcs), 1)...)
	for n, f := range m.Funcs {
		out = append(out, low(f.Params, 1)...)
		out = append(out, low(f.Regs, 1)...)
		out = append(out, low(f.Area, 2)...)
		out = append(out, low(len(codes[n]), 2)...)
		out = append(out, codes[n]...)
	}
	return out
}

// low are the lowest bytes of a number, as many as size, which is one of a word's sizes.
func low(n, size int) []byte {
	b, _ := word.Put(uint64(n), size)
	return b
}

// input is bytes that are read, the place as far as which they have been, and the first fault in them.
type input struct {
	api.Fault
	bytes []byte
	place int
}

// reader reads a module from its input. Its methods return it, and do nothing once there is a fault.
// What a method writes is asked for in a later statement only, never in the same one: the language leaves open whether a variable is read ahead of a call beside it.
type reader struct {
	input
	m api.Module
}

// need puts a fault in its place unless what is needed there holds.
func (r *reader) need(holds bool, e api.Errno, at int) *reader {
	if r.Err == api.OK && !holds {
		r.Fault = api.Fault{Err: e, At: at}
	}
	return r
}

// piece reads so many bytes, which remain those of the input.
func (r *reader) piece(to *[]byte, many int) *reader {
	if r.need(many <= len(r.bytes)-r.place, api.ErrBytes, len(r.bytes)); r.Err == api.OK {
		*to = r.bytes[r.place : r.place+many]
		r.place += many
	}
	return r
}

// number reads a number of so many bytes.
func (r *reader) number(to *int, size int) *reader {
	var b []byte
	if r.piece(&b, size); r.Err == api.OK {
		n, _ := word.Get(b)
		*to = int(n)
	}
	return r
}

// counted reads how many bytes there are, and these, which may not be more than most.
func (r *reader) counted(to *[]byte, most int) *reader {
	at, many := r.place, 0
	r.number(&many, 2)
	return r.need(many <= most, api.ErrLong, at).piece(to, many)
}

// mark reads what a module's bytes begin with.
func (r *reader) mark() *reader {
	var b []byte
	have := r.bytes[:min(len(mark()), len(r.bytes))]
	return r.need(bytes.HasPrefix(mark(), have), api.ErrForm, 0).piece(&b, len(mark()))
}

// data reads the module's data.
func (r *reader) data() *reader {
	var b []byte
	r.counted(&b, api.MaxData)
	r.m.Data = bytes.Clone(b)
	return r
}

// functions reads how many functions there are, and these.
func (r *reader) functions() *reader {
	at, many := r.place, 0
	r.number(&many, 1)
	r.need(some(many), api.ErrArg, at)
	for range many {
		r.function()
	}
	return r
}

// function reads a function.
func (r *reader) function() *reader {
	var f api.Func
	var b []byte
	r.number(&f.Params, 1).number(&f.Regs, 1).number(&f.Area, 2).counted(&b, api.MaxCode)
	if r.Err != api.OK {
		return r
	}
	l, _, fault := code.Split(b)
	f.Code = l
	r.m.Funcs = append(r.m.Funcs, f)
	return r.need(fault.Err == api.OK, api.ErrForm, r.place-len(b))
}

// end holds that nothing is left.
func (r *reader) end() *reader {
	return r.need(r.place == len(r.bytes), api.ErrBytes, r.place)
}

// valid holds that the module that was read is valid.
func (r *reader) valid() *reader {
	if r.Err != api.OK {
		return r
	}
	return r.need(Check(r.m) == api.OK, api.ErrArg, 0)
}
