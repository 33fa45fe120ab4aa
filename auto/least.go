package auto

import "doppelganger/api"

// Least returns the least machine that accepts the same words.
func Least(m api.Machine) (api.Machine, api.Errno) {
	if Valid(m) != api.OK {
		return api.Machine{}, api.ErrArg
	}
	return least(m)
}

// least returns the least machine of one that may have too many states; ErrFull if
// the least one has too many, too (that of a valid machine never has).
func least(m api.Machine) (api.Machine, api.Errno) {
	g := lay(m.Letters, m)
	p := refine(g)
	state := func(block int) int {
		return int(p.states[p.blocks[block].first])
	}
	step := func(block, letter int) int {
		return p.block[g.follow(state(block), letter)]
	}
	end := func(block int) bool {
		return g.end[state(block)]
	}
	return build(p.block[g.starts[0]], p.block[g.nowhere], m.Letters, api.MaxStates, step, end)
}
