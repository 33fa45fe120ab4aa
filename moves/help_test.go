package moves_test

import (
	"reflect"
	"slices"
	"strconv"
	"strings"
	"testing"

	"doppelganger/api"
	"doppelganger/auto"
	"doppelganger/lang"
	"doppelganger/moves"
)

// mustRead reads a text that is right.
func mustRead(t *testing.T, text string) *lang.Piece {
	t.Helper()
	p, err := lang.Read(text)
	if err != api.OK {
		t.Fatalf("Read(%.300q): error %d", text, err)
	}
	return p
}

// mustPlays returns the machine of a text, and checks what each machine should be: valid, least, with the letters of Letters.
func mustPlays(t *testing.T, text string) api.Machine {
	t.Helper()
	p := mustRead(t, text)
	m, err := moves.Plays(p)
	if err != api.OK {
		t.Fatalf("Plays(%.300q): error %d", text, err)
	}
	least, err := auto.Least(m)
	if err != api.OK || !reflect.DeepEqual(least, m) || m.Letters != len(moves.Letters(p.Decls(), p.Type())) {
		t.Fatalf("Plays(%.300q): not a least machine over the letters of the piece: %d states", text, len(m.Next))
	}
	return m
}

// word is a row of letters, as "0 3 4 1".
func word(t *testing.T, letters string) []int {
	t.Helper()
	var list []int
	for _, field := range strings.Fields(letters) {
		letter, err := strconv.Atoi(field)
		if err != nil {
			t.Fatal(err)
		}
		list = append(list, letter)
	}
	return list
}

// row is the moves of some letters.
func row(p *lang.Piece, letters []int) []api.Move {
	all := moves.Letters(p.Decls(), p.Type())
	var list []api.Move
	for _, letter := range letters {
		list = append(list, all[letter])
	}
	return list
}

// wantPlay checks what Play says.
func wantPlay(t *testing.T, p *lang.Piece, play []api.Move, want bool) {
	t.Helper()
	if is, err := moves.Play(p, play); is != want || err != api.OK {
		t.Errorf("Play(%.300q, %v): %t, error %d; want %t", p.Text(), play, is, err, want)
	}
}

// plays is a text, rows of letters that are plays of it, and rows that are none.
type plays struct {
	text    string
	yes, no []string
}

// wantPlays checks the plays of texts, by their machines and by Play.
func wantPlays(t *testing.T, list []plays) {
	t.Helper()
	for _, c := range list {
		p, m := mustRead(t, c.text), mustPlays(t, c.text)
		for i, letters := range slices.Concat(c.yes, c.no) {
			want, w := i < len(c.yes), word(t, letters)
			if auto.Accepts(m, w) != want {
				t.Errorf("Plays(%.300q), word %s: %t; want %t", c.text, letters, !want, want)
			}
			wantPlay(t, p, row(p, w), want)
		}
	}
}

// wantStates checks how many states a machine has.
func wantStates(t *testing.T, text string, want int) {
	t.Helper()
	if m := mustPlays(t, text); len(m.Next) != want {
		t.Errorf("Plays(%.300q): %d states; want %d", text, len(m.Next), want)
	}
}

// wantSame checks that all texts have the same plays.
func wantSame(t *testing.T, texts ...string) {
	t.Helper()
	first := mustPlays(t, texts[0])
	for _, text := range texts[1:] {
		if !reflect.DeepEqual(mustPlays(t, text), first) {
			t.Errorf("%.300q and %.300q: different plays", texts[0], text)
		}
	}
}

// wantFull checks that Plays and, for each row, Play exceed a limit.
func wantFull(t *testing.T, text string, rows ...string) {
	t.Helper()
	p := mustRead(t, text)
	if m, err := moves.Plays(p); err != api.ErrFull || !reflect.DeepEqual(m, api.Machine{}) {
		t.Errorf("Plays(%.300q): %d states, error %d; want ErrFull alone", text, len(m.Next), err)
	}
	for _, letters := range rows {
		if is, err := moves.Play(p, row(p, word(t, letters))); is || err != api.ErrFull {
			t.Errorf("Play(%.300q, %s): %t, error %d; want ErrFull alone", text, letters, is, err)
		}
	}
}
