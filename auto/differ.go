package auto

import "doppelganger/api"

// Differ returns the first word, by length and order, that one of two machines accepts alone, and whether it is the first machine.
func Differ(a, b api.Machine) (word []int, first bool, err api.Errno) {
	if err := fit(a, b); err != api.OK {
		return nil, false, err
	}
	g := lay(a.Letters, a, b)
	p := refine(g)
	one, other := g.starts[0], g.starts[1]
	if p.block[one] == p.block[other] {
		return nil, false, api.ErrSame
	}
	// A shortest word of n letters tells apart behind round n + 1, and not behind
	// round n. So does what is left of it behind a letter, one round earlier.
rounds:
	for round := p.round() - 1; round > 0; round-- {
		if p.apart(one, other, round) {
			continue
		}
		for letter := range g.letters {
			nextOne, nextOther := g.follow(one, letter), g.follow(other, letter)
			if p.apart(nextOne, nextOther, round) {
				word = append(word, letter)
				one, other = nextOne, nextOther
				continue rounds
			}
		}
	}
	return word, g.end[one], api.OK
}

// same reports whether two machines accept the same words.
func same(a, b api.Machine) bool {
	g := lay(a.Letters, a, b)
	p := refine(g)
	return p.block[g.starts[0]] == p.block[g.starts[1]]
}
