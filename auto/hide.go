package auto

import "doppelganger/api"

// Hide returns a machine that accepts the accepted words without some letters.
func Hide(m api.Machine, hidden []bool) (api.Machine, api.Errno) {
	if Valid(m) != api.OK || len(hidden) != m.Letters {
		return api.Machine{}, api.ErrArg
	}
	m, _ = least(m)
	var (
		columns = columnsOf(m)
		reach   = reachable(m, hidden)
		first   = set{}
	)
	if m.Start >= 0 {
		first.join(reach[m.Start])
	}
	step := func(from set, letter int) set {
		to := set{}
		if hidden[letter] {
			return to
		}
		column := columns[letter]
		for state := range from.each {
			if next := int(column[state]); next >= 0 && !to.has(next) {
				to.join(reach[next])
			}
		}
		return to
	}
	end := func(s set) bool {
		for state := range s.each {
			if m.End[state] {
				return true
			}
		}
		return false
	}
	sets, err := build(first, set{}, m.Letters, api.MaxStates, step, end)
	if err != api.OK {
		return api.Machine{}, err
	}
	return least(sets)
}

// columnsOf returns for each letter where it leads from each state. Sets go along
// one letter from many states, so what they look at should stand close together.
func columnsOf(m api.Machine) [][]int32 {
	columns := make([][]int32, m.Letters)
	for _, row := range m.Next {
		for letter, to := range row {
			columns[letter] = append(columns[letter], int32(to))
		}
	}
	return columns
}

// reachable returns for each state what is found from it by hidden letters alone, itself, too.
func reachable(m api.Machine, hidden []bool) [][]chunk {
	reach := make([]set, len(m.Next))
	for state, row := range m.Next {
		reach[state].add(state)
		for letter, to := range row {
			if hidden[letter] && to >= 0 {
				reach[state].add(to)
			}
		}
	}
	for between := range reach {
		through := reach[between].chunks()
		for state := range reach {
			if reach[state].has(between) {
				reach[state].join(through)
			}
		}
	}
	lists := make([][]chunk, len(reach))
	for state := range reach {
		lists[state] = reach[state].chunks()
	}
	return lists
}
