package auto_test

import (
	"fmt"
	"math/rand"
	"slices"
	"testing"

	"doppelganger/api"
	"doppelganger/auto"
)

func wantHide(t *testing.T, m api.Machine, hidden []bool, want api.Machine) {
	t.Helper()
	got, err := auto.Hide(m, hidden)
	wantMachine(t, fmt.Sprintf("Hide of %v in %s", hidden, show(m)), got, err, want)
}

// P3.7: the accepted words from which the hidden letters were taken out.
func TestHide(t *testing.T) {
	const yes, no = true, false
	for _, c := range []struct {
		m      string
		hidden []bool
		want   string
	}{
		{"[1 -1], [-1 2], *[-1 -1]", []bool{no, yes}, "[1 -1], *[-1 -1]"}, // 0 1: 0 is left
		{"[1 -1], [2 -1], *[-1 2]", []bool{yes, no}, "*[-1 0]"},           // behind two hidden letters
		{"[1 2], [-1 -1], *[-1 -1]", []bool{yes, no}, "[-1 1], *[-1 -1]"}, // a dead end by a hidden letter
		{"[1 0], *[1 -1]", []bool{no, yes}, "[1 -1], *[1 -1]"},
		{"[0 1], *[-1 -1]", []bool{yes, no}, "[-1 1], *[-1 -1]"}, // a hidden letter stays where it is
		{"[1 0], [2 1], *[0 2]", []bool{yes, no}, "*[-1 0]"},     // hidden letters go around
		{"[1 0 0], [1 2 0], *[2 2 2]", []bool{no, yes, no}, "[1 -1 0], *[1 -1 1]"},
		{"[1 -1 -1], [-1 2 3], [2 -1 -1], *[-1 -1 -1]", []bool{yes, yes, no}, "[-1 -1 1], *[-1 -1 -1]"},
		// Sets of two states: 0 goes to 0, and to 1 by a hidden letter.
		{"[0 -1 1], [-1 1 -1], *[-1 -1 -1]", []bool{no, no, yes}, ""},
		{"[0 -1 1], *[-1 1 -1]", []bool{no, no, yes}, "*[0 1 -1], *[-1 1 -1]"},
		{"[-1 1 2], [0 -1 -1], *[2 0 -1]", []bool{no, no, yes}, "*[0 0 -1]"},
		{"[-1 1 2], [0 -1 -1], *[-1 0 -1]", []bool{no, no, yes}, "*[-1 1 -1], *[0 1 -1]"},
	} {
		m := machine(c.m)
		want := none(m.Letters)
		if c.want != "" {
			want = machine(c.want)
		}
		wantHide(t, m, c.hidden, want)
	}
}

// P3.7: nothing hidden: the least machine; all hidden: the word without letters, or none.
func TestHideNothingAndAll(t *testing.T) {
	for _, text := range []string{"*[]", "[]", "*[0]", even, three, "[1 -1], [-1 2], *[-1 -1]", "[1 0], [-1 1]", "[-1 1], [0 -1], *[0 0]"} {
		m := machine(text)
		least, err := auto.Least(m)
		if err != api.OK {
			t.Fatal(err)
		}
		nothing := make([]bool, m.Letters)
		wantHide(t, m, nothing, least)
		all := slices.Repeat([]bool{true}, m.Letters)
		if len(least.Next) == 0 {
			wantHide(t, m, all, none(m.Letters))
		} else {
			wantHide(t, m, all, made(1, m.Letters, func(int, int) int { return -1 }, always))
		}
	}
	wantHide(t, machine("*[]"), nil, machine("*[]"))
	for _, hidden := range [][]bool{{false, false}, {true, false}, {true, true}} {
		wantHide(t, none(2), hidden, none(2))
		wantHide(t, machine("[1 0], [0 -1], *[0 0]"), hidden, none(2))
	}
}

// P3.7: ErrArg if hidden has not as many entries as there are letters.
func TestHideWrongLength(t *testing.T) {
	for _, c := range []struct {
		m      api.Machine
		hidden []bool
	}{
		{machine(even), nil}, {machine(even), []bool{}}, {machine(even), []bool{true, true}}, {machine("*[]"), []bool{false}},
		{machine("*[0 0]"), []bool{true}}, {machine("*[0 0]"), make([]bool, 3)}, {none(2), nil}, {none(2), make([]bool, 3)},
		{none(api.MaxSigns), make([]bool, api.MaxSigns+1)}, {none(api.MaxSigns), make([]bool, api.MaxSigns-1)},
	} {
		got, err := auto.Hide(c.m, c.hidden)
		wantNone(t, fmt.Sprintf("Hide of %d in %d letters", len(c.hidden), c.m.Letters), got, err, api.ErrArg)
	}
}

// P3.7, over random machines: what sets of states say; and the result is a least machine.
func TestHideOfRandom(t *testing.T) {
	r := rand.New(rand.NewSource(7))
	for range 5000 {
		m := random(r, 6, r.Intn(4))
		hidden := make([]bool, m.Letters)
		for letter := range hidden {
			hidden[letter] = r.Intn(2) == 0
		}
		got, err := auto.Hide(m, hidden)
		wantAlike(t, fmt.Sprintf("Hide of %v in %s", hidden, show(m)), got, err, hiddenOf(m, hidden))
		for _, row := range got.Next {
			for letter, to := range row {
				if hidden[letter] && to != -1 {
					t.Fatalf("Hide of %v in %s: a word with a hidden letter is accepted", hidden, show(m))
				}
			}
		}
	}
}

// fromTheEnd is a machine over letters 0 and 1, and letter 2, with which a 1 begins that has just some letters behind it.
func fromTheEnd(behind int) api.Machine {
	return made(behind+3, 3, func(state, letter int) int {
		switch {
		case state == 0 && letter == 2:
			return 1
		case state == 0:
			return 0
		case letter == 2 || state == 1 && letter == 0 || state == behind+2:
			return -1
		}
		return state + 1
	}, is(behind+2))
}

// twoCycles is a machine that goes around by letter 0, behind one step; with a hidden letter 1 at first it goes
// around in another cycle. Letter 2 leads nowhere. Behind the first set there are as many as pairs of both cycles.
func twoCycles(one, other int) api.Machine {
	return made(2+one+other, 3, func(state, letter int) int {
		switch {
		case letter == 2 || letter == 1 && state != 0:
			return -1
		case state == 0:
			return []int{2, 1}[letter]
		case state == 1 || state == 1+one+other:
			return 2 + one
		case state == 1+one:
			return 2
		}
		return state + 1
	}, func(state int) bool { return state == 2 || state == 2+one })
}

// P3.7: ErrFull if there are more than MaxStates sets; the empty one is none of them.
func TestHideFull(t *testing.T) {
	hidden := []bool{false, false, true}
	got, err := auto.Hide(fromTheEnd(10), hidden) // all sets of 11 states
	wantAlike(t, "Hide of 2048 sets", got, err, made(1<<11, 3, func(state, letter int) int {
		if letter == 2 {
			return -1
		}
		return (2*state + letter) % (1 << 11)
	}, func(state int) bool { return state >= 1<<10 }))
	got, err = auto.Hide(fromTheEnd(11), hidden)
	wantNone(t, "Hide of 4096 sets", got, err, api.ErrFull)
	got, err = auto.Hide(fromTheEnd(300), hidden)
	wantNone(t, "Hide of very many sets", got, err, api.ErrFull)

	hidden = []bool{false, true, false}
	got, err = auto.Hide(twoCycles(93, 43), hidden) // 1 + 3999 sets
	wantAlike(t, "Hide of 4000 sets", got, err, made(1+3999, 3, func(state, letter int) int {
		if letter > 0 {
			return -1
		}
		return state%3999 + 1
	}, func(state int) bool { return state > 0 && ((state-1)%93 == 0 || (state-1)%43 == 0) }))
	got, err = auto.Hide(twoCycles(32, 125), hidden) // 1 + 4000 sets
	wantNone(t, "Hide of 4001 sets", got, err, api.ErrFull)
	// The sets are those of the least machine: of this one there is one.
	wantHide(t, broken(twoCycles(32, 125), func(m *api.Machine) {
		for state := range m.End {
			m.End[state] = true
		}
	}), hidden, machine("*[0 -1 -1]"))
}

// P3.7: great machines.
func TestHideOfGreat(t *testing.T) {
	row := func(states int) api.Machine {
		return made(states, 2, func(state, _ int) int {
			if state+1 == states {
				return -1
			}
			return state + 1
		}, is(states-1))
	}
	// Any number of the 3999 letters may be left: each set is all states from one on.
	wantHide(t, row(api.MaxStates), []bool{true, false}, made(api.MaxStates, 2, func(state, letter int) int {
		if letter == 0 || state+1 == api.MaxStates {
			return -1
		}
		return state + 1
	}, always))
	great := cycle(api.MaxStates, 2, 1, is(0))
	wantHide(t, great, []bool{true, false}, broken(great, func(m *api.Machine) {
		for _, row := range m.Next {
			row[0] = -1
		}
	}))
	wantHide(t, great, []bool{false, true}, machine("*[0 -1]"))
}
