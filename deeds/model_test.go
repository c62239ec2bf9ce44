package deeds_test

import (
	"regexp"
	"strconv"
	"strings"

	"twinshaft/api"
)

// The model says layer 14 once more, by plain lists and by the form of texts.

// modelTape is all bytes, a place in them, and what was done.
type modelTape struct {
	in    []byte
	place int
	done  []api.Deed
}

func (m *modelTape) left() int { return len(m.in) - m.place }

func (m *modelTape) get() int {
	b := -1
	if m.place < len(m.in) {
		b = int(m.in[m.place])
		m.place++
	}
	m.done = append(m.done, api.Deed{Kind: 1, B: b})
	return b
}

func (m *modelTape) put(b int) {
	for b < 0 {
		b += 256
	}
	m.done = append(m.done, api.Deed{Kind: 2, B: b % 256})
}

func (m *modelTape) copied() modelTape {
	return modelTape{in: m.in, place: m.place, done: append([]api.Deed{}, m.done...)}
}

// modelValid is whether an outcome is one: it is looked up in the lists of all deeds and all endings.
func modelValid(x api.Outcome) bool {
	if len(x.Deeds) > 100_000 {
		return false
	}
	over := false
	for _, d := range x.Deeds {
		found := false
		for _, valid := range validDeeds() {
			found = found || d == valid
		}
		if !found || over && d.Kind == 1 && d.B != -1 {
			return false
		}
		over = over || d == api.Deed{Kind: 1, B: -1}
	}
	for _, valid := range endings() {
		if x.End == valid {
			return true
		}
	}
	return false
}

// validDeeds are all there are, endings likewise.
func validDeeds() []api.Deed {
	out := []api.Deed{{Kind: 1, B: -1}}
	for b := range 256 {
		out = append(out, api.Deed{Kind: 1, B: b}, api.Deed{Kind: 2, B: b})
	}
	return out
}

func endings() []api.Ending {
	out := []api.Ending{{Kind: 2, Code: 1}, {Kind: 2, Code: 2}, {Kind: 3}, {Kind: 4}}
	for code := range 256 {
		out = append(out, api.Ending{Kind: 1, Code: code})
	}
	return out
}

var form = regexp.MustCompile(`^((?:[+-](?:-1|0|[1-9][0-9]*) )*)(?:(exit|trap) (0|[1-9][0-9]*)|(stack|fuel))$`)

// modelRead is the outcome of a text.
func modelRead(s string) (api.Outcome, bool) {
	parts := form.FindStringSubmatch(s)
	if parts == nil {
		return api.Outcome{}, false
	}
	var x api.Outcome
	for _, word := range strings.Fields(parts[1]) {
		b, _ := strconv.Atoi(word[1:])
		x.Deeds = append(x.Deeds, api.Deed{Kind: 1 + strings.Index("+-", word[:1]), B: b})
	}
	kinds := []string{"", "exit", "trap", "stack", "fuel"}
	for kind, name := range kinds {
		if name != "" && (parts[2] == name || parts[4] == name) {
			x.End.Kind = kind
		}
	}
	x.End.Code, _ = strconv.Atoi("0" + parts[3])
	return x, true
}

// mixed tells numbers that look mixed, always the same ones.
type mixed uint64

func (m *mixed) below(n int) int {
	*m = *m*6364136223846793005 + 1442695040888963407
	return int(uint64(*m)>>33) % n
}
