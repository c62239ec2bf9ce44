package code

import (
	"twinshaft/api"
	"twinshaft/op"
	"twinshaft/word"
)

// width is how many bytes a letter's field has; an l has that many for the number of its elements, and for each of them.
func width(letter rune) int {
	switch letter {
	case 'i':
		return 8
	case 'f', 'd', 't':
		return 2
	}
	return 1
}

// written are the bytes of an instruction that can be put.
func written(i api.Ins) []byte {
	out := low(i.Op, 1)
	registers := []int{i.A, i.B, i.C}
	for _, letter := range op.Shape(i.Op) {
		size := width(letter)
		switch letter {
		case 'w', 'r':
			out = append(out, low(registers[0], size)...)
			registers = registers[1:]
		case 'l':
			out = append(out, low(len(i.Args), size)...)
			for _, register := range i.Args {
				out = append(out, low(register, size)...)
			}
		default:
			out = append(out, low(i.N, size)...)
		}
	}
	return out
}

// low are the lowest bytes of a number, as many as size, which is one of a word's sizes.
func low(n, size int) []byte {
	b, _ := word.Put(uint64(n), size)
	return b
}

// input is bytes that are read, and the place as far as which they have been.
type input struct {
	bytes []byte
	place int
}

// blame puts the fault of an instruction in its place: where bytes are missing that is the end of the input, otherwise where the instruction begins.
func (in *input) blame(begin int, f *api.Fault) {
	switch f.Err {
	case api.OK:
	case api.ErrBytes:
		f.At = len(in.bytes)
	default:
		f.At = begin
	}
}

// instruction reads an instruction.
func (in *input) instruction() (api.Ins, api.Errno) {
	operation, e := in.number(1)
	if e != api.OK {
		return api.Ins{}, e
	}
	if op.Name(operation) == "" {
		return api.Ins{}, api.ErrIllegal
	}
	i := api.Ins{Op: operation}
	if e := in.fields(&i); e != api.OK {
		return api.Ins{}, e
	}
	if check(i) != api.OK {
		return api.Ins{}, api.ErrRange
	}
	return i, api.OK
}

// fields reads the fields of an instruction's shape, whatever they hold, as far as none is missing, or too long.
func (in *input) fields(i *api.Ins) (e api.Errno) {
	registers := []*int{&i.A, &i.B, &i.C}
	for _, letter := range op.Shape(i.Op) {
		size := width(letter)
		switch letter {
		case 'w', 'r':
			*registers[0], e = in.number(size)
			registers = registers[1:]
		case 'l':
			i.Args, e = in.list(size)
		default:
			i.N, e = in.number(size)
		}
		if e != api.OK {
			return e
		}
	}
	return api.OK
}

// list reads how many registers there are, and these.
func (in *input) list(size int) ([]int, api.Errno) {
	many, e := in.number(size)
	if e != api.OK {
		return nil, e
	}
	if many > api.MaxArgs {
		return nil, api.ErrLong
	}
	var out []int
	for range many {
		register, e := in.number(size)
		if e != api.OK {
			return nil, e
		}
		out = append(out, register)
	}
	return out, api.OK
}

// number reads a number of so many bytes.
func (in *input) number(size int) (int, api.Errno) {
	if len(in.bytes)-in.place < size {
		return 0, api.ErrBytes
	}
	from := in.place
	in.place += size
	n, e := word.Get(in.bytes[from:in.place])
	return int(n), e
}
