package auto_test

import (
	"math/rand"
	"slices"
	"testing"

	"doppelganger/api"
	"doppelganger/auto"
)

// P3.4: the shortest word, of these the first one, and whether a accepts it.
func TestDiffer(t *testing.T) {
	for _, c := range []struct {
		a, b string
		word []int
	}{ // a accepts the word
		{"*[]", "[]", nil},
		{"*[0]", "[0]", nil}, // the word without letters
		{"*[1 1], [0 0]", "[0 0]", nil},
		{"[1], *[-1]", "[0]", []int{0}},
		{"*[0]", "*[-1]", []int{0}}, // nowhere
		{"*[0]", "*[1], [-1]", []int{0}},
		{"*[1], *[2], *[-1]", "*[1], *[-1]", []int{0, 0}},
		{"[1 1 1], *[-1 -1 -1]", "[-1 1 -1], *[-1 -1 -1]", []int{0}},
		{"[1 1 1], *[-1 -1 -1]", "[1 1 -1], *[-1 -1 -1]", []int{2}},
		// By a short word with a late letter, and by a long one with the first letter.
		{"[1 3], [2 -1], *[-1 -1], *[-1 -1]", "[1 2], [2 -1], [-1 -1]", []int{1}},
		// Two words of one length: 0 1 and 1 0.
		{"[1 2], [-1 3], [3 -1], *[-1 -1]", "[-1 -1]", []int{0, 1}},
		{"[1 2], [-1 3], [3 -1], *[-1 -1]", "[1 -1], [-1 2], *[-1 -1]", []int{1, 0}},
		// The first letters lead to states that are told apart by longer words only.
		{"[1 2], [2 2], [-1 3], *[-1 -1]", "[1 2], [2 2], [-1 -1]", []int{1, 1}},
		{"[0 1], [1 2], [2 3], *[3 3]", "[0 1], [1 2], [2 2]", []int{1, 1, 1}},
	} {
		wantDiffer(t, machine(c.a), machine(c.b), c.word, true)
		wantDiffer(t, machine(c.b), machine(c.a), c.word, false)
	}
	wantDiffer(t, none(1), machine("[1], *[0]"), []int{0}, false)
	wantDiffer(t, machine("[1], *[0]"), none(1), []int{0}, true)
	wantDiffer(t, none(0), machine("*[]"), nil, false)
}

// P3.4: whether a accepts the word is told of the word, not of the machines as a whole.
func TestDifferBothWays(t *testing.T) {
	// a accepts 0 and 1 1, b accepts 1 and 1 1.
	a, b := machine("[1 2], *[-1 -1], [-1 1]"), machine("[-1 1], *[-1 2], *[-1 -1]")
	wantDiffer(t, a, b, []int{0}, true)
	wantDiffer(t, b, a, []int{0}, false)
	// a accepts 1, b accepts 0.
	a, b = machine("[-1 1], *[-1 -1]"), machine("[1 -1], *[-1 -1]")
	wantDiffer(t, a, b, []int{0}, false)
	wantDiffer(t, b, a, []int{0}, true)
}

// P3.4: ErrSame.
func TestDifferSame(t *testing.T) {
	for _, c := range [][2]string{
		{"*[]", "*[]"}, {"[]", "[], *[]"}, {even, even}, {even, three}, {"*[0 0]", "*[1 2], *[2 0], *[1 1]"},
		{"[0]", "[-1]"}, {"*[1], [1]", "*[-1]"}, {"[1], [2], *[0]", "[1], [2], *[3], [4], [5], *[0]"},
	} {
		wantSame(t, machine(c[0]), machine(c[1]))
		wantSame(t, machine(c[1]), machine(c[0]))
	}
	wantSame(t, none(3), none(3))
	wantSame(t, none(1), machine("[0], *[1]"))
	wantSame(t, none(2), machine("[1 -1], [0 0]"))
}

// P3.4, over random machines: what all words say.
func TestDifferOfRandom(t *testing.T) {
	r := rand.New(rand.NewSource(4))
	same, long := 0, 0
	for range 20000 {
		letters := r.Intn(3)
		a, b := random(r, 4, letters), random(r, 4, letters)
		if r.Intn(3) == 0 { // little is different
			b = copied(a)
			if len(b.Next) > 0 && letters > 0 {
				b.Next[r.Intn(len(b.Next))][r.Intn(letters)] = r.Intn(len(b.Next))
			}
		}
		word, first, ok := differenceOf(a, b)
		if !ok {
			same++
			wantSame(t, a, b)
			continue
		}
		if len(word) > 2 {
			long++
		}
		wantDiffer(t, a, b, word, first)
		wantDiffer(t, inflated(r, b), inflated(r, a), word, !first)
	}
	if same < 500 || long < 100 {
		t.Errorf("only %d machines are the same, and %d have a long difference", same, long)
	}
}

// P3.4: great machines, of which there are too many pairs of states to look at each.
func TestDifferOfGreat(t *testing.T) {
	states := api.MaxStates
	a, b := cycle(states, 2, 0, is(states-1)), cycle(states-1, 2, 1, is(states-2))
	ones := slices.Repeat([]int{1}, states-2)
	wantDiffer(t, a, b, ones, false)
	wantDiffer(t, b, a, ones, true)
	notLast := func(count int) func(int) bool { return func(state int) bool { return state != count-1 } }
	wantDiffer(t, cycle(states, 300, 299, notLast(states)), cycle(states-1, 300, 299, notLast(states-1)),
		slices.Repeat([]int{299}, states-2), true)
	wantSame(t, cycle(states, 2, 0, always), cycle(states-1, 2, 1, always))
	// The states of a are told apart from those of b by words of up to twice as many letters.
	row := func(count int, ends bool) api.Machine {
		return made(count, 1, func(state, _ int) int {
			if state+1 == count {
				return 0
			}
			return state + 1
		}, func(state int) bool { return ends && state+1 == count })
	}
	wantDiffer(t, row(states, true), row(states, false), slices.Repeat([]int{0}, states-1), true)
	all := func(count int) api.Machine {
		return cycle(count, 1, 0, func(state int) bool { return state != 0 && state != 2000 })
	}
	word, first, err := auto.Differ(all(states), all(states-1))
	if err != api.OK || len(word) != states-1 || first != true {
		t.Errorf("Differ of two long cycles: %d letters, %v, error %d", len(word), first, err)
	}
}
