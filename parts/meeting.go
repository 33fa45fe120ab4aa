package parts

import (
	"slices"

	"doppelganger/api"
)

// pair is a state of each of two modules.
type pair [2]state

// meeting is two modules of which the same operations are called.
type meeting struct {
	left, right runner
	pairs       []pair // those that were come to, the first ones followed
	met         map[pair]bool
}

// meet returns the pairs of states that two modules, which are the same, come to behind the same calls.
func meet(a, b *Module) ([]pair, api.Errno) {
	m := meeting{left: newRunner(a), right: newRunner(b), met: map[pair]bool{}}
	m.add(pair{a.first(), b.first()})
	for followed := 0; followed < len(m.pairs); {
		count := len(m.pairs) - followed
		for i := range count {
			if err := m.follow(m.pairs[followed+i]); err != api.OK {
				return nil, err
			}
		}
		followed += count
	}
	return m.pairs, api.OK
}

// add adds a pair, unless it was come to before.
func (m *meeting) add(p pair) {
	if !m.met[p] {
		m.met[p] = true
		m.pairs = append(m.pairs, p)
	}
}

// follow adds the pairs to which the operations lead from one.
func (m *meeting) follow(p pair) api.Errno {
	left, err := m.left.outcomes(p[0])
	if err != api.OK {
		return err
	}
	right, err := m.right.outcomes(p[1])
	if err != api.OK {
		return err
	}
	for i := range left {
		if left[i].ends && right[i].ends {
			m.add(pair{left[i].then, right[i].then})
		}
	}
	return api.OK
}

// comparePairs compares the first states, and then the second ones.
func comparePairs(p, q pair) int {
	if p[0] != q[0] {
		return slices.Compare(p[0][:], q[0][:])
	}
	return slices.Compare(p[1][:], q[1][:])
}
