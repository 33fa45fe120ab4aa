package auto

import "doppelganger/api"

// graph is some machines, one behind the other, with one more state as the last
// one: nowhere, to which letters lead that lead nowhere. So each letter leads to
// a state. A graph may have more states than a machine.
type graph struct {
	letters int
	starts  []int   // of the machines
	next    []int32 // for each state, letter by letter
	end     []bool
	nowhere int
}

func lay(letters int, machines ...api.Machine) *graph {
	g := &graph{letters: letters}
	for _, m := range machines {
		g.nowhere += len(m.Next)
	}
	g.next = make([]int32, 0, (g.nowhere+1)*letters)
	for _, m := range machines {
		first := len(g.end)
		g.starts = append(g.starts, g.place(first, m.Start))
		for _, row := range m.Next {
			for _, to := range row {
				g.next = append(g.next, int32(g.place(first, to)))
			}
		}
		g.end = append(g.end, m.End...)
	}
	for range letters {
		g.next = append(g.next, int32(g.nowhere))
	}
	g.end = append(g.end, false)
	return g
}

// place returns where a state of the machine with a first place stands.
func (g *graph) place(first, state int) int {
	if state < 0 {
		return g.nowhere
	}
	return first + state
}

func (g *graph) follow(state, letter int) int {
	return int(g.next[state*g.letters+letter])
}

// sources tells from where a letter leads to a state.
type sources struct {
	letters int
	first   []int32 // for each state, letter by letter: where its list begins
	lists   []int32
}

func sourcesOf(g *graph) *sources {
	s := &sources{letters: g.letters, first: make([]int32, len(g.next)+1), lists: make([]int32, len(g.next))}
	for at, to := range g.next {
		s.first[int(to)*g.letters+at%g.letters]++
	}
	for i := range g.next {
		s.first[i+1] += s.first[i]
	}
	// Now each entry tells where its list ends; it goes back to where the list
	// begins, as the list is filled.
	for state := range g.end {
		for letter := range g.letters {
			i := g.follow(state, letter)*g.letters + letter
			s.first[i]--
			s.lists[s.first[i]] = int32(state)
		}
	}
	return s
}

func (s *sources) of(state int32, letter int) []int32 {
	i := int(state)*s.letters + letter
	return s.lists[s.first[i]:s.first[i+1]]
}
