package auto

import "doppelganger/api"

// finder numbers what is found, in the order in which it is found.
type finder[T comparable] struct {
	nowhere T // what has no number
	numbers map[T]int
	found   []T
}

func newFinder[T comparable](nowhere T) *finder[T] {
	return &finder[T]{nowhere: nowhere, numbers: map[T]int{}}
}

// number returns the number of a thing, -1 of nowhere.
func (f *finder[T]) number(thing T) int {
	if thing == f.nowhere {
		return -1
	}
	number, known := f.numbers[thing]
	if !known {
		number = len(f.found)
		f.numbers[thing] = number
		f.found = append(f.found, thing)
	}
	return number
}

// search finds all that is found from a first thing on, by steps along letters,
// and returns the numbers to which these lead. It reports whether no more than
// limit things are found; if there are more, it does not look for all of them.
func (f *finder[T]) search(first T, letters, limit int, step func(from T, letter int) T) (next [][]int, ok bool) {
	f.number(first)
things:
	for at := 0; at < len(f.found); at++ {
		row := make([]int, letters)
		for letter := range letters {
			row[letter] = f.number(step(f.found[at], letter))
			if len(f.found) > limit {
				break things
			}
		}
		next = append(next, row)
	}
	return next, len(f.found) <= limit
}

// build makes a machine of what is found from a first thing on; ErrFull if this is more than limit things.
func build[T comparable](first, nowhere T, letters, limit int, step func(from T, letter int) T, end func(T) bool) (api.Machine, api.Errno) {
	f := newFinder(nowhere)
	next, ok := f.search(first, letters, limit, step)
	if !ok {
		return api.Machine{}, api.ErrFull
	}
	m := api.Machine{Letters: letters, Start: f.number(first), Next: next}
	for _, thing := range f.found {
		m.End = append(m.End, end(thing))
	}
	return m, api.OK
}
