package auto_test

import (
	"math"
	"math/rand"
	"testing"

	"doppelganger/api"
	"doppelganger/auto"
)

// P3.2: Accepts.
func TestAccepts(t *testing.T) {
	m := machine("[1 -1 2], *[1 0 -1], *[-1 -1 -1]")
	other := broken(m, func(m *api.Machine) { m.Start = 1 })
	for _, c := range []struct {
		m    api.Machine
		word []int
		want bool
	}{
		{m, nil, false},
		{m, []int{}, false},
		{m, []int{0}, true},
		{m, []int{2}, true},
		{m, []int{0, 1}, false},
		{m, []int{0, 1, 0, 0, 0}, true},
		{m, []int{0, 1, 2}, true},
		{m, []int{1}, false},
		{m, []int{1, 0}, false},       // -1 on the way
		{m, []int{2, 0}, false},       // behind the end
		{m, []int{0, 2, 0, 0}, false}, // -1 on the way, and letters behind it
		{m, []int{3}, false},          // no letter
		{m, []int{0, 3}, false},       // behind a word that is accepted
		{m, []int{-1}, false},         // no letter
		{m, []int{0, -1}, false},
		{m, []int{-1, 0}, false},
		{m, []int{1, 3}, false}, // no letter, behind -1
		{m, []int{0, math.MaxInt}, false},
		{m, []int{0, math.MinInt}, false},
		{other, nil, true}, // another start
		{other, []int{0}, true},
		{other, []int{1}, false},
		{other, []int{1, 0}, true},
		{none(2), nil, false}, // no states
		{none(2), []int{0}, false},
		{none(0), []int{0}, false},
		{machine("*[]"), nil, true}, // no letters
		{machine("*[]"), []int{0}, false},
		{machine("[]"), nil, false},
		{machine("*[-1]"), nil, true},
		{machine("*[-1]"), []int{0}, false},
		{machine("*[-1]"), []int{0, 0}, false},
	} {
		if got := auto.Accepts(c.m, c.word); got != c.want {
			t.Errorf("Accepts of %s, %v: %v", show(c.m), c.word, got)
		}
	}
	long := make([]int, 100001)
	if auto.Accepts(machine(even), long) || !auto.Accepts(machine(even), long[1:]) {
		t.Errorf("Accepts of even and long words")
	}
}

// P3.2: a machine that is not valid accepts nothing, wherever it is wrong.
func TestAcceptsNotValid(t *testing.T) {
	for _, machines := range []map[string]api.Machine{wrong(), full(), wrongAndFull()} {
		for name, m := range machines {
			for _, word := range [][]int{nil, {0}, {0, 0}, {1}, {-1}} {
				if auto.Accepts(m, word) {
					t.Errorf("Accepts (%s), %v: true", name, word)
				}
			}
		}
	}
}

// P3.3: states that accept the same are one; the others, and their order, are told by the words alone.
func TestLeast(t *testing.T) {
	for _, c := range [][2]string{
		{"*[]", "*[]"},
		{"*[0]", "*[0]"},
		{"*[1], *[0]", "*[0]"}, // all states alike
		{"[1], [2], [3], *[0]", "[1], [2], [3], *[0]"}, // none alike
		{"[1], *[2], [3], *[0]", "[1], *[0]"},
		{"*[-1]", "*[-1]"},
		{"*[1], [1]", "*[-1]"}, // a dead end
		{"*[1], [2], [1]", "*[-1]"},
		{"*[-1], *[-1], [0]", "*[-1]"}, // states that are not found
		{"*[1], [0], *[3], [2]", "*[1], [0]"},
		{"*[2], *[0], [1]", "*[1], [2], *[0]"},               // another order
		{"[2 1], *[-1 2], [-1 1]", "[1 2], [-1 2], *[-1 1]"}, // in order of letters
		{"[3 2 1], *[-1 -1 -1], *[1 -1 -1], *[2 -1 -1]", "[1 2 3], *[2 -1 -1], *[3 -1 -1], *[-1 -1 -1]"},
		{"[1 4], [2 -1], [3 -1], *[-1 -1], [5 -1], *[-1 -1]", "[1 2], [2 -1], [3 -1], *[-1 -1]"}, // state by state
		{"[1 3], [2 2], *[-1 -1], [2 4], [4 4]", "[1 2], [3 3], [3 -1], *[-1 -1]"},               // a dead end among others
		{"*[1 0], [2 3], *[1 2], [0 1]", "*[1 0], [0 1]"},                                        // two alike, and two
		{"[1 2], [3 4], [4 3], *[5 5], *[5 5], [5 5], *[0 1]", "[1 1], [2 2], *[-1 -1]"},
		{"[1 2], [0 3], [3 0], *[2 1]", "[1 2], [0 3], [3 0], *[2 1]"},
		{"*[1 -1], *[-1 2], *[0 3], [4 4], [3 3]", "*[1 -1], *[-1 2], *[0 -1]"},
		{"[1 -1], [2 -1], [3 -1], [4 -1], [5 -1], *[5 -1]", "[1 -1], [2 -1], [3 -1], [4 -1], [5 -1], *[5 -1]"},
	} {
		wantLeast(t, machine(c[0]), machine(c[1]))
	}
}

// P3.3: the start is the first state, wherever it stood.
func TestLeastStart(t *testing.T) {
	m := machine("[1 -1], [2 0], *[-1 1]")
	for start, want := range []string{"[1 -1], [2 0], *[-1 1]", "[1 2], *[-1 0], [0 -1]", "*[-1 1], [0 2], [1 -1]"} {
		wantLeast(t, broken(m, func(m *api.Machine) { m.Start = start }), machine(want))
	}
}

// P3.3: no word is accepted: no states.
func TestLeastOfNone(t *testing.T) {
	for _, m := range []api.Machine{
		none(0), none(1), none(2), none(api.MaxSigns), machine("[]"), machine("[0]"), machine("[-1]"), machine("[1 1], [0 -1]"),
		machine("[-1], *[0]"), // an end that is not found
		machine("[0 0], *[0 1]"),
		{Letters: 1, Start: 1, Next: [][]int{{1}, {1}}, End: []bool{true, false}},
		made(api.MaxStates, 2, func(state, _ int) int { return (state + 1) % api.MaxStates }, is(-1)),
	} {
		wantLeast(t, m, none(m.Letters))
	}
}

// P3.3, over random machines: what all words say; and a least machine is its own least one.
func TestLeastOfRandom(t *testing.T) {
	r := rand.New(rand.NewSource(3))
	for range 3000 {
		m := random(r, 5, r.Intn(3))
		want := leastOf(m)
		wantLeast(t, m, want)
		wantLeast(t, want, want)
		wantLeast(t, inflated(r, m), want)
	}
}

// P3.3: great machines.
func TestLeastOfGreat(t *testing.T) {
	great := cycle(api.MaxStates, 2, 1, is(api.MaxStates-1))
	wantLeast(t, great, great)
	wantLeast(t, cycle(api.MaxStates, 1, 0, func(state int) bool { return state%10 == 0 }), cycle(10, 1, 0, is(0)))
	wantLeast(t, cycle(api.MaxStates, 1, 0, func(state int) bool { return state%10 != 3 }), cycle(10, 1, 0, func(state int) bool { return state != 3 }))
	wantLeast(t, stay(api.MaxStates, api.MaxSigns), stay(1, api.MaxSigns))
	row := made(api.MaxStates, api.MaxSigns, func(state, letter int) int {
		if to := state + 1 + letter; to < api.MaxStates {
			return to
		}
		return -1
	}, is(api.MaxStates-1))
	wantLeast(t, row, row)
	back := made(api.MaxStates, 3, func(state, letter int) int { return state - 1 }, is(0))
	back.Start = api.MaxStates - 1
	wantLeast(t, back, made(api.MaxStates, 3, func(state, letter int) int {
		if state == api.MaxStates-1 {
			return -1
		}
		return state + 1
	}, is(api.MaxStates-1)))
}
