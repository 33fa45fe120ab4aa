package auto

import (
	"cmp"
	"slices"

	"doppelganger/api"
)

// Relate returns pairs of states that show that two machines accept the same words.
func Relate(a, b api.Machine) ([]api.Pair, api.Errno) {
	if err := fit(a, b); err != api.OK {
		return nil, err
	}
	if !same(a, b) {
		return nil, api.ErrApart
	}
	f := newFinder(nowhere())
	step := func(from api.Pair, letter int) api.Pair {
		return followBoth(a, b, from, letter)
	}
	if _, ok := f.search(starts(a, b), a.Letters, api.MaxInner, step); !ok {
		return nil, api.ErrFull
	}
	slices.SortFunc(f.found, order)
	return f.found, api.OK
}

// nowhere returns the pair of nowhere in both machines.
func nowhere() api.Pair {
	return api.Pair{A: -1, B: -1}
}

func starts(a, b api.Machine) api.Pair {
	return api.Pair{A: a.Start, B: b.Start}
}

func followBoth(a, b api.Machine, from api.Pair, letter int) api.Pair {
	return api.Pair{A: follow(a, from.A, letter), B: follow(b, from.B, letter)}
}

func order(p, q api.Pair) int {
	return cmp.Or(cmp.Compare(p.A, q.A), cmp.Compare(p.B, q.B))
}

// Check reports whether pairs of states show that two machines accept the same words.
func Check(a, b api.Machine, pairs []api.Pair) api.Errno {
	if err := fit(a, b); err != api.OK {
		return err
	}
	if !isRelation(a, b, pairs) {
		return api.ErrForm
	}
	if !shows(a, b, pairs) {
		return api.ErrApart
	}
	return api.OK
}

// isRelation reports whether pairs are a relation of two machines, in its form.
func isRelation(a, b api.Machine, pairs []api.Pair) bool {
	last := nowhere() // this pair stands ahead of all others
	for _, p := range pairs {
		if p.A < -1 || p.A >= len(a.Next) || p.B < -1 || p.B >= len(b.Next) || order(last, p) >= 0 {
			return false
		}
		last = p
	}
	return true
}

// shows reports whether a relation shows that two machines accept the same words.
func shows(a, b api.Machine, pairs []api.Pair) bool {
	width := len(b.Next) + 1
	place := func(p api.Pair) int {
		return (p.A+1)*width + p.B + 1
	}
	there := make([]bool, (len(a.Next)+1)*width)
	there[place(nowhere())] = true
	for _, p := range pairs {
		there[place(p)] = true
	}
	if !there[place(starts(a, b))] {
		return false
	}
	for _, p := range pairs {
		if ends(a, p.A) != ends(b, p.B) {
			return false
		}
		for letter := range a.Letters {
			if !there[place(followBoth(a, b, p, letter))] {
				return false
			}
		}
	}
	return true
}
