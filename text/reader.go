package text

import (
	"math"
	"slices"
	"strings"

	"twinshaft/api"
	"twinshaft/op"
)

// words are those of a line, as far as they count.
func words(line string) []string {
	all := strings.FieldsFunc(line, func(r rune) bool { return r == ' ' || r == '\t' })
	if n := slices.IndexFunc(all, func(word string) bool { return strings.HasPrefix(word, "#") }); n >= 0 {
		return all[:n]
	}
	return all
}

// reader reads a module line by line: m is what has been read of it. Once a line is wrong, m is of no use any more.
type reader struct{ m api.Module }

// line reads a line of these words, or tells why it is wrong.
func (r *reader) line(words []string) api.Errno {
	if len(words) == 0 {
		return api.OK
	}
	name, numbers := words[0], words[1:]
	inside := len(r.m.Funcs) > 0
	i := api.Ins{Op: op.Find(name)}
	shape := op.Shape(i.Op)
	switch {
	case name == dataName && !inside:
		return r.data(numbers)
	case name == functionName:
		return r.function(numbers)
	case strings.HasSuffix(shape, "l") && inside:
		// Only the line itself tells how many Args there are: as many as it has numbers behind those of the other letters.
		i.Args = room(len(numbers) - len(shape) + 1)
		fallthrough
	case i.Op >= 0 && inside:
		return r.instruction(i, numbers)
	}
	return api.ErrForm
}

// room is a list of so many numbers, but of no more than there may be Args.
func room(many int) []int {
	var out []int
	for range min(many, api.MaxArgs) {
		out = append(out, 0)
	}
	return out
}

// data reads bytes of the data.
func (r *reader) data(words []string) api.Errno {
	for _, word := range words {
		n, ok := Number(word)
		if !ok || n < 0 || n > math.MaxUint8 {
			return api.ErrRange
		}
		r.m.Data = append(r.m.Data, byte(n))
	}
	return api.OK
}

// function reads the line with which a function begins.
func (r *reader) function(words []string) api.Errno {
	var f api.Func
	e := fill(words, &f.Params, &f.Regs, &f.Area)
	r.m.Funcs = append(r.m.Funcs, f)
	return e
}

// instruction reads the fields of an instruction of the last function.
func (r *reader) instruction(i api.Ins, words []string) api.Errno {
	e := fill(words, fields(&i)...)
	last := &r.m.Funcs[len(r.m.Funcs)-1]
	last.Code = append(last.Code, i)
	return e
}

// fill puts the numbers of words into fields, one into each.
func fill(words []string, fields ...*int) api.Errno {
	if len(words) != len(fields) {
		return api.ErrForm
	}
	for n, field := range fields {
		number, ok := Number(words[n])
		if !ok {
			return api.ErrRange
		}
		*field = number
	}
	return api.OK
}
