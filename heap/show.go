package heap

import (
	"iter"
	"strings"

	"shuck/api"
	"shuck/text"
	"shuck/value"
)

const (
	cut     = "..."
	deepest = 3 // an array or an object that stands within so many others is cut
)

// shower is a text that grows up to MaxBytes bytes.
type shower struct {
	heap *Heap
	out  strings.Builder
	long bool // it would have more
}

// Show is a value as text.
func (h *Heap) Show(v api.Value) string {
	x, ok := h.thingOf(v)
	if !ok {
		return value.Text(h.settled(v))
	}
	s := &shower{heap: h}
	x.show(s, 0)
	if s.long {
		return strings.Clone(cut)
	}
	return s.out.String()
}

func (o *object) show(s *shower, deep int) { s.whole("{", o.each(), "}", deep) }
func (l *array) show(s *shower, deep int)  { s.whole("[", l.each(), "]", deep) }
func (*function) show(s *shower, _ int)    { s.add("function") }
func (*class) show(s *shower, _ int)       { s.add("class") }

// whole shows an array or an object that stands within so many others.
func (s *shower) whole(open string, each iter.Seq2[string, api.Value], shut string, deep int) {
	s.add(open)
	between := ""
members:
	for name, v := range each {
		s.add(between)
		s.add(name)
		between = ", "
		inner, ok := s.heap.thingOf(v)
		switch {
		case s.long:
			// What is too long stays so: things that stand within themselves may have no end in anyone's time.
			break members
		case !ok:
			s.plain(v)
			continue members
		case deep+1 == deepest && inner.typeof() == anObject:
			s.add(cut)
			continue members
		}
		inner.show(s, deep+1)
	}
	s.add(shut)
}

// plain shows what is no thing, within one.
func (s *shower) plain(v api.Value) {
	switch {
	case v.Kind != api.VString:
		s.add(value.Text(v))
	case len(v.Text) > api.MaxBytes:
		s.long = true // a Quote has no fewer bytes than its text
	default:
		s.add(text.Quote(v.Text))
	}
}

func (s *shower) add(piece string) {
	s.long = s.long || len(piece) > api.MaxBytes-s.out.Len()
	if !s.long {
		s.out.WriteString(piece)
	}
}
