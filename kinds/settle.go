package kinds

import (
	"slices"

	"shuck/api"
)

// What is made of a type's parts is laid as it comes: at the end some of it may be in nothing that is answered, and after an error nothing may be left of it.

// settled keeps, of the types laid from a number on, those alone that what was made has in it; and tells the numbers that these have then.
func (a *Arena) settled(from int, made []int) ([]int, api.Errno) {
	if slices.Contains(made, tooLarge) {
		a.takeBack(from, map[int]int{})
		return nil, api.ErrComplex
	}
	moved := map[int]int{}
	for _, id := range made {
		a.need(id, from, moved)
	}
	a.takeBack(from, moved)
	numbers := make([]int, len(made))
	for i, id := range made {
		numbers[i] = where(id, from, moved)
	}
	return numbers, api.OK
}

// settledOne is settled of one type.
func (a *Arena) settledOne(from, made int) (int, api.Errno) {
	numbers, e := a.settled(from, []int{made})
	if e != api.OK {
		return 0, e
	}
	return numbers[0], api.OK
}

// need notes a type laid from a number on, and those in it.
func (a *Arena) need(id, from int, needed map[int]int) {
	if _, ok := needed[id]; ok || id < from {
		return
	}
	needed[id] = id
	for _, part := range a.types[id].Parts {
		a.need(part, from, needed)
	}
}

// takeBack takes back the types laid from a number on, but those that are needed: they move up, and it is noted where to.
func (a *Arena) takeBack(from int, needed map[int]int) {
	next := from
	for id := from; id < len(a.types); id++ {
		t := a.types[id]
		if _, ok := needed[id]; !ok {
			delete(a.numbers, t.words)
			continue
		}
		// A type's Parts were laid ahead of it: they have moved.
		for i, part := range t.Parts {
			t.Parts[i] = where(part, from, needed)
		}
		a.types[next] = t
		a.numbers[t.words] = next
		needed[id] = next
		next++
	}
	clear(a.types[next:])
	a.types = a.types[:next]
}

func where(id, from int, moved map[int]int) int {
	if id < from {
		return id
	}
	return moved[id]
}
