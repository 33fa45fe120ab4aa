package auto_test

import (
	"math"
	"testing"

	"doppelganger/api"
	"doppelganger/auto"
)

// broken is a machine to which something was done.
func broken(m api.Machine, change func(m *api.Machine)) api.Machine {
	m = copied(m)
	change(&m)
	return m
}

// stay is a machine that stays in its only row of states, all alike.
func stay(states, letters int) api.Machine {
	return made(states, letters, func(state, letter int) int { return state }, always)
}

// wrong returns machines that are none, each for one reason.
func wrong() map[string]api.Machine {
	m := machine("*[1 -1], [0 1], [2 2]")
	change := func(change func(m *api.Machine)) api.Machine { return broken(m, change) }
	return map[string]api.Machine{
		"the zero value":            {},
		"letters below 0":           {Letters: -1, Start: -1},
		"the fewest letters":        {Letters: math.MinInt, Start: -1},
		"letters below 0, and rows": {Letters: -1, Next: [][]int{{}}, End: []bool{true}},
		"an end too few":            change(func(m *api.Machine) { m.End = m.End[:2] }),
		"an end too many":           change(func(m *api.Machine) { m.End = append(m.End, false) }),
		"no ends":                   change(func(m *api.Machine) { m.End = nil }),
		"no rows":                   change(func(m *api.Machine) { m.Next = nil }),
		"ends, and no states":       {Letters: 1, Start: -1, End: []bool{true}},
		"a row too short":           change(func(m *api.Machine) { m.Next[2] = m.Next[2][:1] }),
		"a row too long":            change(func(m *api.Machine) { m.Next[0] = append(m.Next[0], 0) }),
		"a nil row":                 change(func(m *api.Machine) { m.Next[1] = nil }),
		"a letter too many":         change(func(m *api.Machine) { m.Letters = 3 }),
		"a letter too few":          change(func(m *api.Machine) { m.Letters = 1 }),
		"no letters, and entries":   change(func(m *api.Machine) { m.Letters = 0 }),
		"a next state too great":    change(func(m *api.Machine) { m.Next[2][1] = 3 }),
		"a next state below -1":     change(func(m *api.Machine) { m.Next[0][0] = -2 }),
		"the greatest next state":   change(func(m *api.Machine) { m.Next[1][0] = math.MaxInt }),
		"the lowest next state":     change(func(m *api.Machine) { m.Next[1][0] = math.MinInt }),
		"a start too great":         change(func(m *api.Machine) { m.Start = 3 }),
		"a start below -1":          change(func(m *api.Machine) { m.Start = -2 }),
		"the greatest start":        change(func(m *api.Machine) { m.Start = math.MaxInt }),
		"the lowest start":          change(func(m *api.Machine) { m.Start = math.MinInt }),
		"no start, and states":      change(func(m *api.Machine) { m.Start = -1 }),
		"a start, and no states":    {Letters: 2},
		"start 1, and no states":    {Letters: 2, Start: 1},
		"start -2, and no states":   {Letters: 2, Start: -2},
	}
}

// full returns machines that are too great.
func full() map[string]api.Machine {
	return map[string]api.Machine{
		"letters, without states":  none(api.MaxSigns + 1),
		"the most letters":         none(math.MaxInt),
		"letters, with states":     stay(2, api.MaxSigns+1),
		"states":                   stay(api.MaxStates+1, 1),
		"states, without letters":  stay(api.MaxStates+1, 0),
		"states and letters":       stay(api.MaxStates+1, api.MaxSigns+1),
		"many more states":         stay(3*api.MaxStates, 2),
		"states that lead nowhere": made(api.MaxStates+1, 1, func(int, int) int { return -1 }, always),
	}
}

// wrongAndFull returns machines that are none, and too great.
func wrongAndFull() map[string]api.Machine {
	states, letters := stay(api.MaxStates+1, 2), stay(2, api.MaxSigns+1)
	return map[string]api.Machine{
		"states, an end too few":           broken(states, func(m *api.Machine) { m.End = m.End[1:] }),
		"states, a row too few":            broken(states, func(m *api.Machine) { m.Next = m.Next[1:] }),
		"states, a short last row":         broken(states, func(m *api.Machine) { m.Next[api.MaxStates] = []int{0} }),
		"states, a next state":             broken(states, func(m *api.Machine) { m.Next[api.MaxStates][1] = api.MaxStates + 1 }),
		"states, no start":                 broken(states, func(m *api.Machine) { m.Start = -1 }),
		"states, a start":                  broken(states, func(m *api.Machine) { m.Start = api.MaxStates + 1 }),
		"states, letters below 0":          broken(states, func(m *api.Machine) { m.Letters = -1 }),
		"letters, rows too short":          {Letters: api.MaxSigns + 1, Next: [][]int{{0}}, End: []bool{true}},
		"letters, a row too long":          broken(letters, func(m *api.Machine) { m.Next[1] = append(m.Next[1], 0) }),
		"letters, the last next state":     broken(letters, func(m *api.Machine) { m.Next[1][api.MaxSigns] = 2 }),
		"letters, the start":               broken(letters, func(m *api.Machine) { m.Start = 2 }),
		"letters, a start, and no states":  {Letters: api.MaxSigns + 1},
		"letters, ends, and no states":     {Letters: api.MaxSigns + 1, Start: -1, End: []bool{false}},
		"the most letters, and no entries": {Letters: math.MaxInt, Next: [][]int{nil}, End: []bool{true}},
	}
}

// P3.1: Valid.
func TestValid(t *testing.T) {
	want := func(machines map[string]api.Machine, want api.Errno) {
		t.Helper()
		for name, m := range machines {
			if got := auto.Valid(m); got != want {
				t.Errorf("Valid (%s): %d; want %d", name, got, want)
			}
		}
	}
	want(wrong(), api.ErrArg)
	want(full(), api.ErrFull)
	want(wrongAndFull(), api.ErrArg)
	want(map[string]api.Machine{
		"no states, no letters":   none(0),
		"no states":               none(1),
		"no states, most letters": none(api.MaxSigns),
		"empty lists":             {Letters: 1, Start: -1, Next: [][]int{}, End: []bool{}},
		"no letters":              machine("*[]"),
		"no letters, many states": machine("*[], [], *[]"),
		"no letters, nil row":     {Next: [][]int{nil}, End: []bool{true}},
		"another start":           {Letters: 1, Start: 2, Next: [][]int{{-1}, {0}, {1}}, End: []bool{true, false, false}},
		"unfound and useless":     machine("*[1 -1], [0 1], [2 2]"),
		"most letters":            stay(1, api.MaxSigns),
		"most states":             stay(api.MaxStates, 1),
		"most states, no letters": stay(api.MaxStates, 0),
		"most states and letters": stay(api.MaxStates, api.MaxSigns),
		"the last state and nowhere": made(api.MaxStates, 2, func(_, letter int) int { return letter*api.MaxStates - 1 },
			always),
	}, api.OK)
}

// answer is what a function says of some machines: its error, and whether all else is zero.
type answer struct {
	function string
	err      api.Errno
	bare     bool
}

// ofOne asks all functions on one machine but Valid and Accepts.
func ofOne(m api.Machine) []answer {
	least, leastErr := auto.Least(m)
	hide, hideErr := auto.Hide(m, make([]bool, max(0, min(m.Letters, 1000))))
	misfit, misfitErr := auto.Hide(m, make([]bool, 7))
	count, countErr := auto.Count(m, 2)
	none, noneErr := auto.Count(m, -1)
	bare := func(m api.Machine) bool { return show(m) == show(api.Machine{}) }
	return []answer{
		{"Least", leastErr, bare(least)}, {"Hide", hideErr, bare(hide)}, {"Hide of a wrong length", misfitErr, bare(misfit)},
		{"Count", countErr, count == 0}, {"Count of a wrong length", noneErr, none == 0},
	}
}

// ofTwo asks all functions on two machines.
func ofTwo(a, b api.Machine) []answer {
	word, first, differErr := auto.Differ(a, b)
	pairs, relateErr := auto.Relate(a, b)
	both, bothErr := auto.Both(a, b)
	either, eitherErr := auto.Either(a, b)
	bare := func(m api.Machine) bool { return show(m) == show(api.Machine{}) }
	return []answer{
		{"Differ", differErr, len(word) == 0 && !first}, {"Relate", relateErr, len(pairs) == 0},
		{"Check", auto.Check(a, b, []api.Pair{{A: 0, B: 0}}), true}, {"Check of no pairs", auto.Check(a, b, nil), true},
		{"Check of no relation", auto.Check(a, b, []api.Pair{{A: -9, B: 9}}), true},
		{"Both", bothErr, bare(both)}, {"Either", eitherErr, bare(either)},
	}
}

func wantAnswers(t *testing.T, name string, answers []answer, want api.Errno) {
	t.Helper()
	for _, a := range answers {
		if a.err != want || !a.bare {
			t.Errorf("%s (%s): error %d, alone: %v; want error %d alone", a.function, name, a.err, a.bare, want)
		}
	}
}

// P3.1: the other functions return ErrArg for machines that are not valid, of either kind, ahead of all other errors.
func TestNotValid(t *testing.T) {
	small, other := machine(even), machine("*[0 0 0]")
	for _, machines := range []map[string]api.Machine{wrong(), full(), wrongAndFull()} {
		for name, m := range machines {
			wantAnswers(t, name, ofOne(m), api.ErrArg)
			wantAnswers(t, name+" is the first", ofTwo(m, small), api.ErrArg)
			wantAnswers(t, name+" is the second", ofTwo(small, m), api.ErrArg)
			wantAnswers(t, name+", and other letters", ofTwo(m, other), api.ErrArg)
			wantAnswers(t, name+", and other letters ahead", ofTwo(other, m), api.ErrArg)
			wantAnswers(t, name+" twice", ofTwo(m, m), api.ErrArg)
		}
	}
}

// P3.1: then ErrType, if two machines have different letters.
func TestOtherLetters(t *testing.T) {
	machines := []api.Machine{
		none(0), none(1), none(2), machine("*[]"), machine(even), machine("*[0 0]"), machine("*[0 0 0]"),
		none(api.MaxSigns), stay(2, api.MaxSigns-1),
	}
	for _, a := range machines {
		for _, b := range machines {
			if a.Letters != b.Letters {
				wantAnswers(t, show(a)+" and "+show(b), ofTwo(a, b), api.ErrType)
			}
		}
	}
}
