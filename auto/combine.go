package auto

import "doppelganger/api"

// Both returns a machine that accepts the words that both accept.
func Both(a, b api.Machine) (api.Machine, api.Errno) {
	keep := func(p api.Pair) api.Pair {
		if p.A < 0 || p.B < 0 {
			return nowhere()
		}
		return p
	}
	return combine(a, b, keep, func(one, other bool) bool { return one && other })
}

// Either returns a machine that accepts the words that one of both accepts.
func Either(a, b api.Machine) (api.Machine, api.Errno) {
	keep := func(p api.Pair) api.Pair {
		return p
	}
	return combine(a, b, keep, func(one, other bool) bool { return one || other })
}

// combine returns the least machine that goes along in two machines, as long as their pair of states is kept, and accepts as they decide.
func combine(a, b api.Machine, keep func(api.Pair) api.Pair, decide func(one, other bool) bool) (api.Machine, api.Errno) {
	if err := fit(a, b); err != api.OK {
		return api.Machine{}, err
	}
	a, _ = least(a)
	b, _ = least(b)
	step := func(from api.Pair, letter int) api.Pair {
		return keep(followBoth(a, b, from, letter))
	}
	end := func(p api.Pair) bool {
		return decide(ends(a, p.A), ends(b, p.B))
	}
	m, err := build(keep(starts(a, b)), nowhere(), a.Letters, api.MaxInner, step, end)
	if err != api.OK {
		return api.Machine{}, err
	}
	return least(m)
}
