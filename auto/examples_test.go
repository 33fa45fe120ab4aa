package auto_test

import (
	"testing"

	"doppelganger/api"
	"doppelganger/auto"
)

const even, three = "*[1], [0]", "*[1], [2], *[1]"

// The chapter's table of examples.
func TestExamples(t *testing.T) {
	all := machine("*[0]")
	wantLeast(t, machine(three), machine(even))
	for _, c := range []struct {
		word []int
		want bool
	}{{[]int{0, 0}, true}, {[]int{0}, false}, {[]int{1}, false}, {nil, true}} {
		if auto.Accepts(machine(even), c.word) != c.want {
			t.Errorf("Accepts of even and %v is not %v", c.word, c.want)
		}
	}
	wantLeast(t, machine("[1 0], [-1 1]"), none(2))
	wantDiffer(t, machine(even), all, []int{0}, false)
	wantSame(t, machine(even), machine(three))

	a, b := machine(three), machine(even)
	wantRelate(t, a, b, api.Pair{A: 0, B: 0}, api.Pair{A: 1, B: 1}, api.Pair{A: 2, B: 0})
	wantCheck(t, a, b, api.OK, api.Pair{A: 0, B: 0}, api.Pair{A: 1, B: 1}, api.Pair{A: 2, B: 0})
	wantCheck(t, a, b, api.ErrApart, api.Pair{A: 0, B: 0}, api.Pair{A: 1, B: 1})
	wantCheck(t, a, b, api.ErrForm, api.Pair{A: 2, B: 0}, api.Pair{A: 0, B: 0}, api.Pair{A: 1, B: 1})
	wantCheck(t, a, b, api.ErrForm, api.Pair{A: -1, B: -1}, api.Pair{A: 0, B: 0}, api.Pair{A: 1, B: 1}, api.Pair{A: 2, B: 0})

	both, err := auto.Both(machine(even), machine("*[1], [2], [0]"))
	wantMachine(t, "Both of lengths that 2 and 3 divide", both, err, machine("*[1], [2], [3], [4], [5], [0]"))
	hidden, err := auto.Hide(machine("[1 -1], [-1 2], *[-1 -1]"), []bool{true, false})
	wantMachine(t, "Hide of the word 0 1", hidden, err, machine("[-1 1], *[-1 -1]"))
	hidden, err = auto.Hide(machine(even), []bool{true})
	wantMachine(t, "Hide of even", hidden, err, machine("*[-1]"))
	wantCount(t, machine(even), 4, 1)
	wantCount(t, machine(even), 3, 0)
	wantCount(t, machine("*[0 0]"), 64, 0)
}
