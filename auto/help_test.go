package auto_test

import (
	"fmt"
	"strconv"
	"strings"
	"testing"

	"doppelganger/api"
	"doppelganger/auto"
)

// none is the machine without states.
func none(letters int) api.Machine {
	return api.Machine{Letters: letters, Start: -1}
}

// machine reads a machine as the chapter writes it: rows of next states, with * at those that accept. The first state is the start.
func machine(text string) api.Machine {
	var m api.Machine
	for row := range strings.SplitSeq(text, ",") {
		row = strings.TrimSpace(row)
		m.End = append(m.End, strings.HasPrefix(row, "*"))
		next := []int{}
		for _, word := range strings.Fields(strings.Trim(row, "*[]")) {
			to, err := strconv.Atoi(word)
			if err != nil {
				panic(text)
			}
			next = append(next, to)
		}
		m.Next = append(m.Next, next)
		m.Letters = len(next)
	}
	return m
}

// show writes a machine so that two can be compared: nil and empty slices look the same.
func show(m api.Machine) string {
	return fmt.Sprintf("%d letters, start %d, next %v, end %v", m.Letters, m.Start, m.Next, m.End)
}

// made makes a machine of functions; its start is 0.
func made(states, letters int, next func(state, letter int) int, end func(state int) bool) api.Machine {
	m := api.Machine{Letters: letters}
	for state := range states {
		row := make([]int, letters)
		for letter := range row {
			row[letter] = next(state, letter)
		}
		m.Next = append(m.Next, row)
		m.End = append(m.End, end(state))
	}
	return m
}

// cycle is the machine that counts one letter modulo a number, and stays where it is by the others.
func cycle(length, letters, counted int, end func(state int) bool) api.Machine {
	return made(length, letters, func(state, letter int) int {
		if letter == counted {
			return (state + 1) % length
		}
		return state
	}, end)
}

// is returns a test of one state.
func is(state int) func(int) bool {
	return func(other int) bool { return other == state }
}

func always(int) bool { return true }

// copied is a machine that shares no memory with another one.
func copied(m api.Machine) api.Machine {
	c := m
	c.Next, c.End = nil, append([]bool(nil), m.End...)
	for _, row := range m.Next {
		c.Next = append(c.Next, append([]int{}, row...))
	}
	return c
}

// wantMachine checks a result that is a machine.
func wantMachine(t *testing.T, what string, got api.Machine, err api.Errno, want api.Machine) {
	t.Helper()
	if err != api.OK || show(got) != show(want) {
		t.Errorf("%s: %.300s, error %d; want %.300s", what, show(got), err, show(want))
	}
}

// wantNone checks that there is an error, and no machine with it.
func wantNone(t *testing.T, what string, got api.Machine, err, want api.Errno) {
	t.Helper()
	if err != want || show(got) != show(api.Machine{}) {
		t.Errorf("%s: %.300s, error %d; want error %d alone", what, show(got), err, want)
	}
}

func wantLeast(t *testing.T, m, want api.Machine) {
	t.Helper()
	got, err := auto.Least(m)
	wantMachine(t, "Least of "+show(m), got, err, want)
}

func wantDiffer(t *testing.T, a, b api.Machine, want []int, first bool) {
	t.Helper()
	word, got, err := auto.Differ(a, b)
	if err != api.OK || fmt.Sprint(word) != fmt.Sprint(want) || got != first {
		t.Errorf("Differ of %.200s and %.200s: %v, %v, error %d; want %v, %v", show(a), show(b), word, got, err, want, first)
	}
}

func wantSame(t *testing.T, a, b api.Machine) {
	t.Helper()
	word, first, err := auto.Differ(a, b)
	if err != api.ErrSame || len(word) != 0 || first {
		t.Errorf("Differ of %.200s and %.200s: %v, %v, error %d; want ErrSame alone", show(a), show(b), word, first, err)
	}
}

func wantRelate(t *testing.T, a, b api.Machine, want ...api.Pair) {
	t.Helper()
	pairs, err := auto.Relate(a, b)
	if err != api.OK || fmt.Sprint(pairs) != fmt.Sprint(want) {
		t.Errorf("Relate of %.200s and %.200s: %v, error %d; want %v", show(a), show(b), pairs, err, want)
	}
}

func wantRelateError(t *testing.T, a, b api.Machine, want api.Errno) {
	t.Helper()
	if pairs, err := auto.Relate(a, b); err != want || len(pairs) != 0 {
		t.Errorf("Relate of %.200s and %.200s: %d pairs, error %d; want error %d alone", show(a), show(b), len(pairs), err, want)
	}
}

func wantCheck(t *testing.T, a, b api.Machine, want api.Errno, pairs ...api.Pair) {
	t.Helper()
	if err := auto.Check(a, b, pairs); err != want {
		t.Errorf("Check of %.200s and %.200s, %v: %d; want %d", show(a), show(b), pairs, err, want)
	}
}

func wantCount(t *testing.T, m api.Machine, length int, want uint64) {
	t.Helper()
	if got, err := auto.Count(m, length); err != api.OK || got != want {
		t.Errorf("Count of %.200s, %d: %d, error %d; want %d", show(m), length, got, err, want)
	}
}
