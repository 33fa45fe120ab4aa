package auto_test

import (
	"math/rand"
	"testing"

	"doppelganger/api"
	"doppelganger/auto"
)

func and(one, other bool) bool { return one && other }
func or(one, other bool) bool  { return one || other }

func wantBoth(t *testing.T, a, b, want api.Machine) {
	t.Helper()
	got, err := auto.Both(a, b)
	wantMachine(t, "Both of "+show(a)+" and "+show(b), got, err, want)
}

func wantEither(t *testing.T, a, b, want api.Machine) {
	t.Helper()
	got, err := auto.Either(a, b)
	wantMachine(t, "Either of "+show(a)+" and "+show(b), got, err, want)
}

// P3.6: the words that both accept, and those that at least one of them accepts.
func TestBothAndEither(t *testing.T) {
	const word01, word10 = "[1 -1], [-1 2], *[-1 -1]", "[-1 1], [2 -1], *[-1 -1]"
	for _, c := range []struct{ a, b, both, either string }{
		{"*[]", "*[]", "*[]", "*[]"},
		{even, even, even, even},
		{three, even, even, even},
		{even, "*[0]", even, "*[0]"},
		{even, "*[1], [2], [0]", "*[1], [2], [3], [4], [5], [0]", "*[1], [2], *[3], *[4], *[5], [0]"},
		{even, "[1], *[0]", "", "*[0]"}, // nothing, and all
		{word01, word10, "", "[1 2], [-1 3], [3 -1], *[-1 -1]"},
		{word01, "*[0 0]", word01, "*[0 0]"},
		{word01, "*[0 -1]", "", "*[1 -1], *[2 3], *[2 -1], *[-1 -1]"},
		{"*[-1]", "[1], *[-1]", "", "*[1], *[-1]"},
		{"[1 1], *[1 1]", "[0 1], *[1 0]", "[0 1], *[1 0]", "[1 1], *[1 1]"},
	} {
		a, b := machine(c.a), machine(c.b)
		both := none(a.Letters)
		if c.both != "" {
			both = machine(c.both)
		}
		wantBoth(t, a, b, both)
		wantBoth(t, b, a, both)
		wantEither(t, a, b, machine(c.either))
		wantEither(t, b, a, machine(c.either))
	}
}

// P3.6: machines of which one or both accept no word, with states and without.
func TestBothAndEitherOfNone(t *testing.T) {
	empty := []api.Machine{none(2), machine("[0 0]"), machine("[1 -1], [0 -1], *[0 0]")}
	for _, a := range empty {
		for _, b := range empty {
			wantBoth(t, a, b, none(2))
			wantEither(t, a, b, none(2))
		}
		b := machine("[2 1], *[-1 2], [-1 1]")
		least := machine("[1 2], [-1 2], *[-1 1]")
		wantBoth(t, a, b, none(2))
		wantBoth(t, b, a, none(2))
		wantEither(t, a, b, least)
		wantEither(t, b, a, least)
	}
	wantBoth(t, none(0), machine("*[]"), none(0))
	wantEither(t, none(0), machine("*[]"), machine("*[]"))
	wantEither(t, machine("[]"), none(0), none(0))
}

// P3.6, over random machines: they accept what all pairs of states say, and are least ones.
func TestBothAndEitherOfRandom(t *testing.T) {
	r := rand.New(rand.NewSource(6))
	for range 5000 {
		letters := r.Intn(4)
		a, b := random(r, 5, letters), random(r, 5, letters)
		both, err := auto.Both(a, b)
		wantAlike(t, "Both of "+show(a)+" and "+show(b), both, err, productOf(a, b, and))
		either, err := auto.Either(a, b)
		wantAlike(t, "Either of "+show(a)+" and "+show(b), either, err, productOf(a, b, or))
	}
}

// wantAlike checks that a result is a least machine that accepts the same words as another one.
func wantAlike(t *testing.T, what string, got api.Machine, err api.Errno, want api.Machine) {
	t.Helper()
	if err != api.OK || auto.Valid(got) != api.OK || got.Letters != want.Letters || !alike(got, want) {
		t.Fatalf("%s: %s, error %d; want what accepts the words of %s", what, show(got), err, show(want))
	}
	least, err := auto.Least(got)
	wantMachine(t, what+", made least", least, err, got)
}

// exits is a machine that goes around by letter 0, behind a row of some states, and ends by letter 1
// and letter 2, from the states that are told. Nothing is found behind an end.
func exits(before, length int, one, two func(state int) bool) api.Machine {
	last := before + length
	return made(last+1, 3, func(state, letter int) int {
		at := state - before
		switch {
		case state == last:
			return -1
		case letter == 0 && state == last-1:
			return before
		case letter == 0:
			return state + 1
		case at >= 0 && (letter == 1 && one(at) || letter == 2 && two(at)):
			return last
		}
		return -1
	}, is(last))
}

func never(int) bool { return false }

// P3.6: Both: ErrFull if there are more than MaxInner pairs of two states. The lengths of the cycles
// have no common divisor, so each pair of their states is found.
func TestBothFullOfPairs(t *testing.T) {
	// The ends are found in one machine alone.
	wantBoth(t, exits(0, 32, is(0), never), exits(0, 625, never, is(0)), none(3)) // 20000 pairs
	got, err := auto.Both(exits(0, 59, is(0), never), exits(0, 339, never, is(0)))
	wantNone(t, "Both of 20001 pairs", got, err, api.ErrFull)
	got, err = auto.Both(cycle(4000, 2, 0, is(0)), cycle(3999, 2, 1, is(0)))
	wantNone(t, "Both of very many pairs", got, err, api.ErrFull)
	// Only the pairs of least machines count: these have one state.
	wantBoth(t, cycle(4000, 2, 0, always), cycle(3999, 2, 1, always), machine("*[0 0]"))
	wantBoth(t, cycle(4000, 2, 0, never), cycle(3999, 2, 1, is(0)), none(2))
	wantBoth(t, cycle(9, 2, 0, is(0)), cycle(3999, 2, 1, always), cycle(9, 2, 0, is(0)))
	wantBoth(t, cycle(3999, 2, 1, always), cycle(9, 2, 0, is(0)), cycle(9, 2, 0, is(0)))
}

// P3.6: Either: ErrFull if there are more than MaxInner pairs, of a state and nowhere, too.
func TestEitherFullOfPairs(t *testing.T) {
	// 139 times 143 pairs of the cycles, those of the rows ahead of them, and three with an end:
	// an end and nowhere, nowhere and an end, both ends. Yet behind the row all is accepted.
	a := func(before int) api.Machine { return exits(before, 139, is(0), always) }
	b := func(before int) api.Machine { return exits(before, 143, always, is(0)) }
	wantEither(t, a(120), b(120), exits(120, 1, always, always)) // 20000 pairs
	got, err := auto.Either(a(121), b(121))
	wantNone(t, "Either of 20001 pairs", got, err, api.ErrFull)
	got, err = auto.Either(cycle(4000, 2, 0, is(0)), cycle(3999, 2, 1, is(0)))
	wantNone(t, "Either of very many pairs", got, err, api.ErrFull)
	wantEither(t, cycle(4000, 2, 0, always), cycle(3999, 2, 1, is(0)), machine("*[0 0]"))
	great := cycle(4000, 2, 1, is(0))
	wantEither(t, cycle(4000, 2, 0, never), great, great)
	wantEither(t, great, cycle(4000, 2, 0, never), great)
}

// P3.6: ErrFull if the result would have more than MaxStates states.
func TestBothAndEitherFullOfStates(t *testing.T) {
	one := func(length int) api.Machine { return cycle(length, 1, 0, is(0)) }
	wantBoth(t, one(32), one(125), one(api.MaxStates))
	wantEither(t, one(32), one(125), cycle(api.MaxStates, 1, 0, func(state int) bool { return state%32 == 0 || state%125 == 0 }))
	for name, c := range map[string][2]api.Machine{
		"4032 states":            {one(63), one(64)},
		"20000 states":           {one(32), one(625)},
		"4000 states and an end": {exits(0, 32, is(0), never), exits(0, 125, is(0), never)},
	} {
		got, err := auto.Both(c[0], c[1])
		wantNone(t, "Both: "+name, got, err, api.ErrFull)
		got, err = auto.Either(c[0], c[1])
		wantNone(t, "Either: "+name, got, err, api.ErrFull)
	}
	got, err := auto.Both(exits(0, 31, is(0), never), exits(0, 129, is(0), never))
	wantAlike(t, "Both of 3999 states and an end", got, err, exits(0, 31*129, is(0), never))
	if len(got.Next) != api.MaxStates {
		t.Errorf("Both of 3999 states and an end: %d states", len(got.Next))
	}
}
