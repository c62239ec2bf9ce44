package text

import (
	"slices"
	"strconv"
	"strings"

	"twinshaft/api"
	"twinshaft/op"
)

// The lines that are no instruction's begin with these words.
const (
	dataName     = "bytes"
	functionName = "func"
)

// bytesPerLine is how many bytes of data a line that is written has at most.
const bytesPerLine = 16

// fields are where an instruction keeps the numbers of its line, in the order of its shape.
func fields(i *api.Ins) []*int {
	var out []*int
	registers := []*int{&i.A, &i.B, &i.C}
	for _, letter := range op.Shape(i.Op) {
		switch letter {
		case 'w', 'r':
			out = append(out, registers[0])
			registers = registers[1:]
		case 'l':
			for n := range i.Args {
				out = append(out, &i.Args[n])
			}
		default:
			out = append(out, &i.N)
		}
	}
	return out
}

// joined is a line of a name and numbers, with one blank between them.
func joined(name string, numbers ...int) string {
	all := []string{name}
	for _, n := range numbers {
		all = append(all, strconv.Itoa(n))
	}
	return strings.Join(all, " ")
}

// written is the text of a valid module.
func written(m api.Module) string {
	var out strings.Builder
	for bytes := range slices.Chunk(m.Data, bytesPerLine) {
		var numbers []int
		for _, b := range bytes {
			numbers = append(numbers, int(b))
		}
		out.WriteString(joined(dataName, numbers...) + "\n")
	}
	for _, f := range m.Funcs {
		out.WriteString(joined(functionName, f.Params, f.Regs, f.Area) + "\n")
		for _, i := range f.Code {
			out.WriteString("  " + Ins(i) + "\n")
		}
	}
	return out.String()
}
