package heap

import (
	"strings"

	"shuck/api"
)

// long is how many bytes a text has at least that is held once for all cells that have it: else few programs with long texts would take far more memory than they have texts.
const long = 256

// held is a long text, and how many cells have it.
type held struct {
	text  string
	cells int
}

// kept is a value as a cell has it: its text is the heap's own memory.
func (h *Heap) kept(v api.Value) api.Value {
	v = h.settled(v)
	if len(v.Text) < long {
		return copied(v)
	}
	if h.texts == nil {
		h.texts = map[string]*held{}
	}
	x, ok := h.texts[v.Text]
	if !ok {
		x = &held{text: strings.Clone(v.Text)}
		h.texts[x.text] = x
	}
	x.cells++
	v.Text = x.text
	return v
}

// forget tells that a cell has a value no more.
func (h *Heap) forget(v api.Value) {
	if len(v.Text) < long {
		return
	}
	x := h.texts[v.Text]
	x.cells--
	if x.cells == 0 {
		delete(h.texts, v.Text)
	}
}
