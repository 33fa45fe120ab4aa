package auto_test

import (
	"fmt"
	"math/rand"
	"slices"
	"testing"

	"doppelganger/api"
	"doppelganger/auto"
)

// results calls each function that returns slices, and returns the machines, and the other slices.
func results(t *testing.T, a, b api.Machine, hidden []bool) (machines []api.Machine, word []int, list []api.Pair) {
	t.Helper()
	add := func(m api.Machine, err api.Errno) {
		t.Helper()
		if err != api.OK {
			t.Fatalf("error %d", err)
		}
		machines = append(machines, m)
	}
	add(auto.Least(a))
	add(auto.Least(b))
	add(auto.Both(a, b))
	add(auto.Either(a, b))
	add(auto.Either(a, none(a.Letters)))
	add(auto.Hide(a, hidden))
	add(auto.Hide(a, make([]bool, a.Letters)))
	word, _, err := auto.Differ(a, b)
	if err != api.OK {
		t.Fatalf("Differ: error %d", err)
	}
	list, err = auto.Relate(a, a)
	if err != api.OK {
		t.Fatalf("Relate: error %d", err)
	}
	return machines, word, list
}

// write writes machines and slices so that they can be compared.
func write(machines []api.Machine, rest ...any) string {
	text := fmt.Sprint(rest...)
	for _, m := range machines {
		text += "; " + show(m)
	}
	return text
}

// scramble changes all that can be reached from a machine, and what stands behind its slices.
func scramble(m api.Machine) {
	for state, row := range m.Next {
		for letter := range row {
			row[letter] = 77
		}
		_ = append(row, 77, 77, 77)
		m.Next[state] = []int{77}
		m.End[state] = !m.End[state]
	}
	_ = append(m.Next, []int{77}, []int{77})
	_ = append(m.End, true, true)
}

// twoMachines are least ones, which might be returned as they are.
func twoMachines() (a, b api.Machine) {
	return machine("*[1 2], [0 3], [3 0], *[2 1]"), machine("[1 -1], *[1 2], *[-1 0]")
}

// P3: arguments are never changed.
func TestArgumentsStay(t *testing.T) {
	a, b := twoMachines()
	hidden, list, word := []bool{true, false}, pairs(0, 0, 1, 1, 2, 2, 3, 3), []int{0, 1, 1}
	before := write([]api.Machine{a, b}, hidden, list, word)
	results(t, a, b, hidden)
	results(t, b, a, hidden)
	for _, m := range []api.Machine{a, b} {
		auto.Valid(m)
		auto.Accepts(m, word)
		auto.Count(m, 5)
		auto.Check(m, m, list)
		auto.Check(a, m, list[:3])
		auto.Hide(m, hidden[:1])
	}
	if after := write([]api.Machine{a, b}, hidden, list, word); after != before {
		t.Errorf("arguments are changed: %s; before: %s", after, before)
	}
}

// P3: what is behind the slices of an argument is not written to.
func TestArgumentsHaveRoom(t *testing.T) {
	const room = 99
	a, b := twoMachines()
	for _, m := range []api.Machine{a, b} {
		for state, row := range m.Next {
			m.Next[state] = append(slices.Clip(row), room)[:len(row)]
		}
	}
	list := append(pairs(0, 0, 1, 1, 2, 2, 3, 3), api.Pair{A: room, B: room})[:4]
	results(t, a, b, []bool{true, false})
	auto.Check(a, a, list)
	for _, m := range []api.Machine{a, b} {
		for _, row := range m.Next {
			if row[:3][2] != room {
				t.Errorf("a row of an argument is appended to")
			}
		}
	}
	if list[:5][4].A != room {
		t.Errorf("the pairs are appended to")
	}
}

// P3: a later change of an argument is not seen in a result, and one of a result not in an argument or in another result.
func TestResultsAreNew(t *testing.T) {
	a, b := twoMachines()
	hidden := []bool{false, true}
	machines, word, list := results(t, a, b, hidden)
	again, wordAgain, listAgain := results(t, a, b, hidden)
	arguments := write([]api.Machine{a, b}, hidden)
	before := write(machines, word, list)
	if write(again, wordAgain, listAgain) != before {
		t.Errorf("the same calls have other results")
	}
	for _, m := range again {
		scramble(m)
	}
	for i := range wordAgain {
		wordAgain[i] = 77
	}
	for i := range listAgain {
		listAgain[i] = api.Pair{A: 77, B: 77}
	}
	if write([]api.Machine{a, b}, hidden) != arguments || write(machines, word, list) != before {
		t.Errorf("arguments or other results are changed by results")
	}
	scramble(a)
	scramble(b)
	hidden[0] = true
	if write(machines, word, list) != before {
		t.Errorf("results are changed by arguments")
	}
}

// P3: the slices of one result share no memory.
func TestRowsAreApart(t *testing.T) {
	a, b := twoMachines()
	machines, _, _ := results(t, a, b, []bool{true, false})
	for _, m := range machines {
		for state, row := range m.Next {
			before := show(m)
			_ = append(row, 77, 77, 77)
			if show(m) != before {
				t.Errorf("what is appended to a row is seen in %s", show(m))
			}
			own := slices.Clone(row)
			row[0] = 77
			for other := range m.Next {
				if other != state && m.Next[other][0] == 77 {
					t.Errorf("rows %d and %d are one", state, other)
				}
			}
			copy(row, own)
		}
	}
}

// P4: the same calls, in whatever order, have the same results.
func TestCallsAreAlike(t *testing.T) {
	r := rand.New(rand.NewSource(9))
	for range 200 {
		a, b := random(r, 8, 2), random(r, 8, 2)
		ask := func() string {
			least, leastErr := auto.Least(a)
			both, bothErr := auto.Both(a, b)
			either, eitherErr := auto.Either(a, b)
			hide, hideErr := auto.Hide(a, []bool{true, false})
			word, first, differErr := auto.Differ(a, b)
			list, relateErr := auto.Relate(a, b)
			return write([]api.Machine{least, both, either, hide}, word, first, list, leastErr, bothErr, eitherErr, hideErr, differErr, relateErr)
		}
		first := ask()
		for range 3 {
			if again := ask(); again != first {
				t.Fatalf("%s and %s: %s, then %s", show(a), show(b), first, again)
			}
		}
	}
}
