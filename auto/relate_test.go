package auto_test

import (
	"math"
	"math/rand"
	"slices"
	"testing"

	"doppelganger/api"
	"doppelganger/auto"
)

// pairs makes pairs of numbers.
func pairs(numbers ...int) []api.Pair {
	var list []api.Pair
	for two := range slices.Chunk(numbers, 2) {
		list = append(list, api.Pair{A: two[0], B: two[1]})
	}
	return list
}

// P3.5: the pairs that are found from both starts, with -1 for nowhere, in their order.
func TestRelate(t *testing.T) {
	for _, c := range []struct {
		a, b string
		want []api.Pair
	}{
		{"*[]", "*[]", pairs(0, 0)},
		{"[]", "[]", pairs(0, 0)},
		{even, even, pairs(0, 0, 1, 1)},
		{even, three, pairs(0, 0, 0, 2, 1, 1)},
		{three, even, pairs(0, 0, 1, 1, 2, 0)},
		{three, three, pairs(0, 0, 1, 1, 2, 2)},
		{"*[-1]", "*[-1]", pairs(0, 0)},            // nowhere twice is not listed
		{"*[-1]", "*[1], [1]", pairs(-1, 1, 0, 0)}, // nowhere stands ahead
		{"*[1], [1]", "*[-1]", pairs(0, 0, 1, -1)},
		{"*[1], [2], [-1]", "*[-1]", pairs(0, 0, 1, -1, 2, -1)}, // and is followed
		{"*[1], [2], [-1]", "*[1], [1]", pairs(0, 0, 1, 1, 2, 1, -1, 1)},
		{"*[-1], [0]", "*[-1], *[1]", pairs(0, 0)}, // states that are not found
		{"*[1 2], [2 1], [1 2]", "*[2 1], [1 2], [2 1]", pairs(0, 0, 1, 1, 1, 2, 2, 1, 2, 2)},
	} {
		wantRelate(t, machine(c.a), machine(c.b), relation(c.want)...)
		wantCheck(t, machine(c.a), machine(c.b), api.OK, relation(c.want)...)
	}
	start := func(m api.Machine, start int) api.Machine {
		return broken(m, func(m *api.Machine) { m.Start = start })
	}
	wantRelate(t, start(machine(even), 1), start(machine(three), 1), pairs(0, 2, 1, 1)...)
	wantRelate(t, start(machine("[0], *[0]"), 1), start(machine("[-1], *[-1], *[0]"), 2), pairs(0, -1, 0, 0, 1, 2)...)
}

// P3.5: machines without states are nowhere from the start on.
func TestRelateOfNone(t *testing.T) {
	wantRelate(t, none(0), none(0))
	wantRelate(t, none(2), none(2))
	wantRelate(t, none(1), machine("[0]"), pairs(-1, 0)...)
	wantRelate(t, machine("[0]"), none(1), pairs(0, -1)...)
	wantRelate(t, none(2), machine("[1 -1], [0 0]"), pairs(-1, 0, -1, 1)...)
	wantRelate(t, machine("[1 -1], [0 0], *[0 0]"), none(2), pairs(0, -1, 1, -1)...)
	wantCheck(t, none(0), none(0), api.OK)
	wantCheck(t, none(2), none(2), api.OK, nil...)
	wantCheck(t, none(1), machine("[0]"), api.OK, pairs(-1, 0)...)
	wantCheck(t, none(1), machine("[0]"), api.ErrApart)
	wantCheck(t, none(1), machine("*[0]"), api.ErrApart, pairs(-1, 0)...)
	wantRelateError(t, none(1), machine("*[0]"), api.ErrApart)
	wantRelateError(t, machine("*[0]"), none(1), api.ErrApart)
}

// P3.5: ErrApart.
func TestRelateApart(t *testing.T) {
	for _, c := range [][2]string{
		{"*[]", "[]"}, {"[0]", "*[0]"}, {even, "*[0]"}, {even, "*[1], [2], [0]"}, {"*[-1]", "*[0]"}, {"*[1], [-1]", "*[1], *[-1]"},
		{"[0 1], [1 2], [2 3], *[3 3]", "[0 1], [1 2], [2 2]"},
	} {
		wantRelateError(t, machine(c[0]), machine(c[1]), api.ErrApart)
		wantRelateError(t, machine(c[1]), machine(c[0]), api.ErrApart)
	}
}

// P3.5: ErrFull if there are more than MaxInner pairs; nowhere twice is none of them.
func TestRelateFull(t *testing.T) {
	fits := [2]api.Machine{cycle(32, 1, 0, always), cycle(625, 1, 0, always)}    // 20000 pairs
	toomany := [2]api.Machine{cycle(59, 1, 0, always), cycle(339, 1, 0, always)} // 20001 pairs
	list, err := auto.Relate(fits[0], fits[1])
	if err != api.OK || len(list) != api.MaxInner || auto.Check(fits[0], fits[1], list) != api.OK {
		t.Errorf("Relate of 20000 pairs: %d, error %d", len(list), err)
	}
	wantRelateError(t, toomany[0], toomany[1], api.ErrFull)
	wantRelateError(t, toomany[1], toomany[0], api.ErrFull)
	// One more letter leads nowhere in both, or to a dead end in one of them.
	more := func(m api.Machine, to int) api.Machine {
		m = copied(m)
		m.Letters = 2
		if to >= 0 {
			m.Next, m.End = append(m.Next, []int{-1}), append(m.End, false)
		}
		for state := range m.Next {
			m.Next[state] = append(m.Next[state], to)
		}
		return m
	}
	list, err = auto.Relate(more(fits[0], -1), more(fits[1], -1))
	if err != api.OK || len(list) != api.MaxInner {
		t.Errorf("Relate of 20000 pairs, and nowhere: %d, error %d", len(list), err)
	}
	wantRelateError(t, more(fits[0], 32), more(fits[1], -1), api.ErrFull)
	wantRelateError(t, more(fits[0], -1), more(fits[1], 625), api.ErrFull)
	// Machines that are apart: ErrApart, however many pairs there are.
	last := is(api.MaxStates - 1)
	wantRelateError(t, cycle(api.MaxStates, 2, 0, last), cycle(api.MaxStates-1, 2, 1, is(5)), api.ErrApart)
	wantRelateError(t, cycle(59, 1, 0, is(58)), cycle(339, 1, 0, is(338)), api.ErrApart)
	wantRelateError(t, cycle(api.MaxStates, 1, 0, always), cycle(api.MaxStates-1, 1, 0, always), api.ErrFull)
}

// P3.5: each reason for ErrForm.
func TestCheckForm(t *testing.T) {
	a, b := machine(three), machine(even)
	for name, list := range map[string][]api.Pair{
		"a first state too great":      pairs(0, 0, 1, 1, 2, 0, 3, 0),
		"a second state too great":     pairs(0, 0, 1, 1, 2, 0, 2, 2),
		"a first state below -1":       pairs(-2, 0, 0, 0, 1, 1, 2, 0),
		"a second state below -1":      pairs(0, -2, 0, 0, 1, 1, 2, 0),
		"great numbers":                pairs(0, 0, 1, 1, 2, 0, math.MaxInt, math.MaxInt),
		"low numbers":                  pairs(math.MinInt, math.MinInt, 0, 0, 1, 1, 2, 0),
		"nowhere twice":                pairs(-1, -1, 0, 0, 1, 1, 2, 0),
		"nowhere twice, last":          pairs(0, 0, 1, 1, 2, 0, -1, -1),
		"nowhere twice, alone":         pairs(-1, -1),
		"a pair twice":                 pairs(0, 0, 1, 1, 1, 1, 2, 0),
		"the first pair twice":         pairs(0, 0, 0, 0, 1, 1, 2, 0),
		"a pair again":                 pairs(0, 0, 1, 1, 2, 0, 0, 0),
		"another order":                pairs(2, 0, 0, 0, 1, 1),
		"another order of the first":   pairs(0, 0, 2, 0, 1, 1),
		"another order of the second":  pairs(0, 1, 0, 0, 1, 1, 2, 0),
		"nowhere behind a state":       pairs(0, 0, 1, 1, 2, 0, -1, 0),
		"nowhere as the second behind": pairs(0, 0, 0, -1, 1, 1, 2, 0),
		"only a state that is none":    pairs(5, 5),
		"another order, and apart":     pairs(1, 0, 0, 1),
	} {
		if err := auto.Check(a, b, list); err != api.ErrForm {
			t.Errorf("Check (%s): %d; want ErrForm", name, err)
		}
	}
	wantCheck(t, none(1), none(1), api.ErrForm, pairs(0, 0)...)
	wantCheck(t, none(1), none(1), api.ErrForm, pairs(-1, 0)...)
	wantCheck(t, none(1), none(1), api.ErrForm, pairs(0, -1)...)
	wantCheck(t, none(1), none(1), api.ErrForm, pairs(-1, -1)...)
	wantCheck(t, none(1), machine("*[0]"), api.ErrForm, pairs(0, 0)...)
	// Of machines that are apart, too.
	wantCheck(t, machine(even), machine("*[0]"), api.ErrForm, pairs(0, 0, 0, 0)...)
}

// P3.5: each reason for ErrApart.
func TestCheckApart(t *testing.T) {
	for name, c := range map[string]struct {
		a, b string
		list []api.Pair
	}{
		"no pairs":                      {three, even, nil},
		"not the starts":                {three, even, pairs(1, 1, 2, 0)},
		"a next pair is not there":      {three, even, pairs(0, 0, 1, 1)},
		"the first next pair":           {three, even, pairs(0, 0, 2, 0)},
		"only the starts":               {three, even, pairs(0, 0)},
		"one state has an end":          {three, even, pairs(0, 0, 0, 1, 1, 1, 2, 0)},
		"the other state has one":       {three, even, pairs(0, 0, 1, 0, 1, 1, 2, 0)},
		"one more pair without next":    {even, "*[1], [0], *[1], *[3]", pairs(0, 0, 0, 3, 1, 1)},
		"nowhere and an end":            {even, three, pairs(-1, 2, 0, 0, 0, 2, 1, 1)},
		"an end and nowhere":            {even, three, pairs(0, -1, 0, 0, 0, 2, 1, 1)},
		"apart, and all pairs":          {even, "*[0]", pairs(0, 0, 1, 0)},
		"apart at the starts":           {"*[0]", "[0]", pairs(0, 0)},
		"nowhere is left":               {"*[-1]", "*[1], [1]", pairs(0, 0)},
		"the next of nowhere":           {"*[-1]", "*[1], [2], [1]", pairs(-1, 1, 0, 0)},
		"the next of a state":           {"*[1], [2], [1]", "*[-1]", pairs(0, 0, 1, -1)},
		"the last letter":               {"*[0 0 1], *[1 1 1]", "*[0 0 1], *[1 1 1]", pairs(0, 0)},
		"the last letter, to an end":    {"*[0 0 1], *[1 1 1]", "*[0 0 1], [1 1 1]", pairs(0, 0, 1, 1)},
		"no letters":                    {"*[]", "*[]", nil},
		"no letters, and an end":        {"*[]", "[]", pairs(0, 0)},
		"no letters, another start":     {"*[], *[]", "*[], *[]", pairs(0, 1, 1, 0, 1, 1)},
		"no letters, one more pair":     {"*[], []", "*[], []", pairs(0, 0, 1, 0)},
		"no letters, nowhere as a pair": {"*[], []", "*[], []", pairs(0, -1, 0, 0)},
	} {
		if err := auto.Check(machine(c.a), machine(c.b), c.list); err != api.ErrApart {
			t.Errorf("Check (%s): %d; want ErrApart", name, err)
		}
	}
}

// P3.5: more pairs than those of the least relation may show it, too.
func TestCheckMore(t *testing.T) {
	for _, c := range []struct {
		a, b string
		list []api.Pair
	}{
		{"*[-1], [1]", "*[-1], [1]", pairs(0, 0, 1, 1)},
		{"*[-1], [1]", "*[-1], [1]", pairs(-1, 1, 0, 0)},
		{"*[-1], [1]", "*[-1], [1]", pairs(-1, 1, 0, 0, 1, -1, 1, 1)},
		{"*[-1], *[0]", "*[-1], *[0]", pairs(0, 0, 1, 1)},
		{three, three, pairs(0, 0, 0, 2, 1, 1, 2, 0, 2, 2)},
		{three, three, pairs(0, 0, 1, 1, 2, 0, 2, 2)},
		{"*[]", "*[], *[], []", pairs(-1, 2, 0, 0, 0, 1)},
	} {
		wantCheck(t, machine(c.a), machine(c.b), api.OK, c.list...)
	}
	wantCheck(t, none(1), machine("[0], [1]"), api.OK, pairs(-1, 0, -1, 1)...)
	wantCheck(t, none(1), none(1), api.OK)
}

// P3.5, T6, over random machines and pairs: Check accepts pairs just if they show it, then the machines accept
// the same words; those of Relate show it; and so does nothing of machines that are apart.
func TestRelateOfRandom(t *testing.T) {
	r := rand.New(rand.NewSource(5))
	accepted, more := 0, 0
	for range 10000 {
		letters := r.Intn(3)
		a := random(r, 4, letters)
		b := random(r, 4, letters)
		if r.Intn(2) == 0 {
			b = inflated(r, a)
		}
		apart := !alike(a, b)
		least := relationOf(a, b)
		if apart {
			wantRelateError(t, a, b, api.ErrApart)
			wantCheck(t, a, b, api.ErrApart, least...)
		} else {
			wantRelate(t, a, b, least...)
			wantCheck(t, a, b, api.OK, least...)
		}
		for range 5 {
			list := changed(r, a, b, least)
			want := api.ErrApart
			if shown(a, b, list) {
				want = api.OK
				accepted++
				if apart {
					t.Fatalf("%s and %s are apart, and shown to be the same", show(a), show(b))
				}
				if len(list) > len(least) {
					more++
				}
			}
			wantCheck(t, a, b, want, list...)
		}
	}
	if accepted < 500 || more < 100 {
		t.Errorf("only %d relations are accepted, %d with more pairs than the least one", accepted, more)
	}
}

// changed adds pairs to a relation, with what is found from them, and takes some out.
func changed(r *rand.Rand, a, b api.Machine, list []api.Pair) []api.Pair {
	list = slices.Clone(list)
	for range r.Intn(3) {
		from := api.Pair{A: r.Intn(len(a.Next)+1) - 1, B: r.Intn(len(b.Next)+1) - 1}
		list = append(list, from)
		if r.Intn(3) > 0 {
			one, other := a, b
			one.Start, other.Start = from.A, from.B
			list = append(list, relationOf(one, other)...)
		}
	}
	list = relation(list)
	if r.Intn(4) == 0 && len(list) > 0 {
		at := r.Intn(len(list))
		list = slices.Delete(list, at, at+1)
	}
	return list
}

// P3.5: great relations.
func TestCheckOfGreat(t *testing.T) {
	a, b := cycle(1000, 2, 0, always), cycle(999, 2, 1, always)
	var list []api.Pair
	for one := range 1000 {
		for other := range 999 {
			list = append(list, api.Pair{A: one, B: other})
		}
	}
	wantRelateError(t, a, b, api.ErrFull)
	if err := auto.Check(a, b, list); err != api.OK {
		t.Errorf("Check of all pairs: %d", err)
	}
	if err := auto.Check(a, b, slices.Delete(list, 500000, 500001)); err != api.ErrApart {
		t.Errorf("Check of all pairs but one: %d", err)
	}
}
