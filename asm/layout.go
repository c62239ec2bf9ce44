package asm

import (
	"slices"

	"twinshaft/api"
)

// The least and the greatest number of bytes that a branch can go.
const (
	leastWay    = -4096
	greatestWay = 4094
)

// layout is where lines stand: the lines' places, with the number of all words behind them, the places of the labels by their numbers, and which lines are far branches.
type layout struct {
	places []int
	labels map[int]int
	far    []bool
}

// layOut tells where lines stand once no more branches are found to be far: no place sinks as more of them are, so this ends.
func layOut(l []api.Line) *layout {
	y := &layout{make([]int, len(l)+1), map[int]int{}, make([]bool, len(l))}
	y.place(l)
	for took(y.far, y.farther(l)) {
		y.place(l)
	}
	return y
}

// place puts lines where they stand while the far branches are those that are known.
func (y *layout) place(l []api.Line) {
	at := 0
	for i, x := range l {
		y.places[i] = at
		if x.Kind == api.LineLabel {
			y.labels[x.Label] = at
			continue
		}
		at++
		if y.far[i] {
			at++
		}
	}
	y.places[len(l)] = at
}

// farther tells which lines are known as far branches, or are found to be.
func (y *layout) farther(l []api.Line) []bool {
	found := make([]bool, len(l))
	for i, x := range l {
		found[i] = y.far[i] || branches(x) && !reaches(y.way(i, x))
	}
	return found
}

// way tells how many words are between the line i, which is x, and the label to which it goes.
func (y *layout) way(i int, x api.Line) int {
	return y.labels[x.Label] - y.places[i]
}

// branches tells whether a line goes by a branch.
func branches(x api.Line) bool {
	return x.Kind == api.LineGoes && Inverse(x.X.Op) != 0
}

// reaches tells whether a branch can go that many words.
func reaches(way int) bool {
	return 4*way >= leastWay && 4*way <= greatestWay
}

// took puts what is found in the place of what is kept, and reports whether that changed anything.
func took[T comparable](kept, found []T) bool {
	if slices.Equal(kept, found) {
		return false
	}
	copy(kept, found)
	return true
}
