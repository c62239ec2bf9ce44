package module

import (
	"slices"

	"twinshaft/api"
	"twinshaft/code"
	"twinshaft/op"
)

// codes are the bytes of the functions' code, or the error by which the module is not valid.
func codes(m api.Module) ([][]byte, api.Errno) {
	if len(m.Data) > api.MaxData {
		return nil, api.ErrLong
	}
	if !some(len(m.Funcs)) {
		return nil, api.ErrArg
	}
	var all [][]byte
	for _, f := range functions(m) {
		b, e := f.code()
		if e != api.OK {
			return nil, e
		}
		all = append(all, b)
	}
	return all, api.OK
}

// some tells whether a module may have that many functions.
func some(many int) bool {
	return many >= 1 && many <= api.MaxFuncs
}

// function is a function that can be asked about itself.
type function api.Func

// functions are a module's.
func functions(m api.Module) []function {
	var out []function
	for _, f := range m.Funcs {
		out = append(out, function(f))
	}
	return out
}

// code is the bytes of the function's code, or the error by which the function is not valid.
func (f function) code() ([]byte, api.Errno) {
	if !f.framed() {
		return nil, api.ErrArg
	}
	b, e := code.Join(f.Code)
	if e != api.OK {
		return nil, e
	}
	for _, i := range f.Code {
		if e := op.Check(i, f.Regs, f.Area); e != api.OK {
			return nil, e
		}
	}
	return b, api.OK
}

// framed tells whether the function may have its numbers of params, of registers, and of bytes of area.
func (f function) framed() bool {
	return f.Regs >= 0 && f.Regs <= api.MaxRegs &&
		f.Params >= 0 && f.Params <= min(f.Regs, api.MaxArgs) &&
		f.Area >= 0 && f.Area <= api.MaxFrame
}

// same tells whether everything in two functions is equal.
func (f function) same(g function) bool {
	return f.Params == g.Params && f.Regs == g.Regs && f.Area == g.Area && slices.EqualFunc(f.Code, g.Code, op.Same)
}
