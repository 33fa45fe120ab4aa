package moves

import (
	"doppelganger/api"
	"doppelganger/lang"
)

// maker makes the graph of a piece.
type maker struct {
	graph
	runner  *runner
	letters map[api.Move]int
	numbers numbers[situation]
	found   []situation // by their numbers, which are those of states
	waiting int         // how many of them are situations in which a call waits
}

func newMaker(p *lang.Piece) *maker {
	m := &maker{runner: newRunner(p), letters: map[api.Move]int{}, numbers: numbers[situation]{}}
	for letter, move := range letters(p) {
		m.letters[move] = letter
	}
	return m
}

// explore finds all situations that come up in plays.
func (m *maker) explore() {
	m.number(situation{waits: ahead})
	for from := 0; from < len(m.found); from++ {
		m.runner.resume(m.found[from])
		for _, option := range m.runner.options() {
			m.runner.resume(m.found[from])
			if made, ok := m.runner.reply(option); ok {
				to := m.number(m.runner.situation())
				m.lead(from, turn{m.letters[option], m.letters[made], to})
			}
		}
	}
}

// number returns the number of a situation; it leaves by ErrFull if there are too many.
func (m *maker) number(s situation) int {
	number := m.numbers.of(s)
	if number < len(m.found) {
		return number
	}
	m.found = append(m.found, s)
	m.add()
	if s.waits >= 0 {
		m.waiting++
	}
	if m.waiting > api.MaxStates {
		panic(api.ErrFull)
	}
	return number
}
