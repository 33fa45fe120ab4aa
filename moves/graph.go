package moves

import (
	"strconv"

	"doppelganger/api"
	"doppelganger/auto"
)

// turn is a move of the other side, and the one that the piece makes then, each
// by its letter, with the state to which both lead.
type turn struct {
	option, made, to int
}

// graph is states between turns: the first one ahead of all moves, the others
// behind moves of the piece.
type graph struct {
	turns [][]turn // of each state, in the order of options
}

func (g *graph) add() {
	g.turns = append(g.turns, nil)
}

func (g *graph) lead(from int, t turn) {
	g.turns[from] = append(g.turns[from], t)
}

// machine returns the least machine of the rows of turns from the first state on;
// it leaves by ErrFull if this has too many states. The machine has a state for
// each class of states, and between both moves of a turn one for the second move
// with the class to which it leads. States as they are may be too many for a
// machine even where this has a few.
func (g *graph) machine(letters int) api.Machine {
	class, classes := g.classes()
	middles := numbers[turn]{}
	for _, turns := range g.turns {
		for _, t := range turns {
			middles.of(turn{made: t.made, to: class[t.to]})
		}
	}
	m := blank(letters, classes+len(middles))
	m.Start = class[0]
	for state, turns := range g.turns {
		own := class[state]
		m.End[own] = state > 0
		for _, t := range turns {
			to := class[t.to]
			middle := classes + middles.of(turn{made: t.made, to: to})
			m.Next[own][t.option] = middle
			m.Next[middle][t.made] = to
		}
	}
	least, err := auto.Least(m)
	if err != api.OK {
		panic(err)
	}
	return least
}

// blank returns a machine whose letters lead nowhere.
func blank(letters, states int) api.Machine {
	if states > api.MaxStates {
		panic(api.ErrFull)
	}
	m := api.Machine{Letters: letters, End: make([]bool, states)}
	for range states {
		row := make([]int, letters)
		for letter := range row {
			row[letter] = none
		}
		m.Next = append(m.Next, row)
	}
	return m
}

// classes returns the class of each state, and how many there are: states are in
// one class if the same rows of turns begin there.
func (g *graph) classes() (class []int, count int) {
	class, count = classify(len(g.turns), g.moves)
	for {
		finer, more := classify(len(g.turns), func(state int) classKey { return g.key(state, class) })
		if more == count {
			return class, count
		}
		class, count = finer, more
		// Each class but that of the first state has another state of the machine
		// ahead of it. So it is known early that the machine is too great.
		if 2*count-1 > api.MaxStates {
			panic(api.ErrFull)
		}
	}
}

// moves returns the moves of the turns of a state, as a text.
func (g *graph) moves(state int) string {
	var text []byte
	for _, t := range g.turns[state] {
		text = strconv.AppendInt(append(text, ' '), int64(t.option), 10)
		text = strconv.AppendInt(append(text, ' '), int64(t.made), 10)
	}
	return string(text)
}

// classKey is the class of a state, and those to which its turns lead: there is one
// for each answer, and one for each argument, at the most.
type classKey [1 + api.Width + api.MaxArgs]int

func (g *graph) key(state int, class []int) classKey {
	key := classKey{class[state]}
	for i, t := range g.turns[state] {
		key[i+1] = class[t.to]
	}
	return key
}

// classify puts the states with the same key into one class.
func classify[K comparable](states int, key func(state int) K) (class []int, count int) {
	found := numbers[K]{}
	for state := range states {
		class = append(class, found.of(key(state)))
	}
	return class, len(found)
}

// numbers gives each thing a number, in the order in which they come.
type numbers[K comparable] map[K]int

func (n numbers[K]) of(thing K) int {
	number, known := n[thing]
	if !known {
		number = len(n)
		n[thing] = number
	}
	return number
}
