package moves_test

import (
	"slices"
	"testing"

	"doppelganger/api"
	"doppelganger/lang"
	"doppelganger/moves"
)

// P4.7, P4.8, P1: nil, and the zero value.
func TestNoPiece(t *testing.T) {
	for _, p := range []*lang.Piece{nil, {}, new(lang.Piece)} {
		if m, err := moves.Plays(p); err != api.ErrArg || m.Letters != 0 || m.Start != 0 || m.Next != nil || m.End != nil {
			t.Errorf("Plays of no piece: %v, error %d; want ErrArg alone", m, err)
		}
		for _, play := range [][]api.Move{nil, {begin, done}, make([]api.Move, api.MaxSteps+1)} {
			if is, err := moves.Play(p, play); is || err != api.ErrArg {
				t.Errorf("Play of no piece, with %d moves: %t, error %d; want ErrArg alone", len(play), is, err)
			}
		}
	}
}

// P4.8: no moves, and numbers of moves that are odd.
func TestNumbersOfMoves(t *testing.T) {
	p := mustRead(t, "p : com |- com : while 1 { p }")
	wantPlay(t, p, nil, false)
	wantPlay(t, p, []api.Move{}, false)
	play := []api.Move{begin, asks("p", 0)}
	for range 20 {
		wantPlay(t, p, play, true)
		wantPlay(t, p, play[:len(play)-1], false)
		wantPlay(t, p, play[1:], false)
		play = append(play, tells("p", 0), asks("p", 0))
	}
}

// P4.8: MaxSteps moves, and more.
func TestMostMoves(t *testing.T) {
	p := mustRead(t, "p : com |- com : while 1 { p }")
	play := []api.Move{begin, asks("p", 0)}
	for len(play) < api.MaxSteps {
		play = append(play, tells("p", 0), asks("p", 0))
	}
	wantPlay(t, p, play, true)
	wantPlay(t, p, play[:api.MaxSteps-1], false)
	wrong := slices.Clone(play)
	wrong[api.MaxSteps-1] = done
	wantPlay(t, p, wrong, false)
	for _, long := range [][]api.Move{
		append(slices.Clone(play), tells("p", 0)),
		append(slices.Clone(play), tells("p", 0), asks("p", 0)),
		make([]api.Move, api.MaxSteps+1),
		append(slices.Clone(wrong), faults),
	} {
		if is, err := moves.Play(p, long); is || err != api.ErrFull {
			t.Errorf("%d moves: %t, error %d; want ErrFull alone", len(long), is, err)
		}
	}
}

// P4.8: moves that no piece with these declarations may meet, and moves that this one does not meet.
func TestMovesThatAreNone(t *testing.T) {
	p := mustRead(t, "f(com, val) : exp, x : exp |- com : new y = f({ skip }, x) { skip }")
	good := []api.Move{begin, asks("x", 0), tells("x", 2), asks("f", 2), wants("f", 1), gives("f", 1, 0), tells("f", 3), done}
	wantPlay(t, p, good, true)
	other := func(at int, with ...api.Move) {
		t.Helper()
		for _, move := range with {
			play := slices.Clone(good)
			play[at] = move
			wantPlay(t, p, play, false)
		}
	}
	other(0, done, faults, asks("x", 0), asks("", 1), wants("", 1), api.Move{Arg: -1}, asks("", -1), gives("", 1, 0))
	other(1, tells("x", 0), asks("x", 1), asks("f", 2), asks("y", 0), done, faults, begin, wants("x", 1), asks("X", 0))
	other(2, tells("x", 4), tells("x", -1), tells("x", 1), tells("f", 2), tells("y", 2), asks("x", 0), wants("x", 1), faults, begin, done,
		api.Move{Name: "x", Answer: true, Value: 2, Fault: true}, gives("x", 1, 2))
	other(3, asks("f", 1), asks("f", 3), asks("f", 16), wants("f", 0), wants("f", 2), tells("f", 2), api.Move{Name: "f", Value: 2, Fault: true})
	other(4, wants("f", 2), wants("f", 3), wants("f", 0), wants("f", -1), wants("f", 100), wants("x", 1), wants("", 1), gives("f", 1, 0),
		api.Move{Name: "f", Arg: 1, Value: 1}, api.Move{Name: "f", Arg: 1, Fault: true})
	other(5, gives("f", 1, 1), gives("f", 2, 0), wants("f", 1), tells("f", 0), done, gives("f", 1, -1))
	other(6, tells("f", 4), tells("f", -1), tells("x", 3), done, faults)
	other(7, tells("", 1), tells("", -1), faults, begin, asks("x", 0), wants("", 1))
	for _, more := range [][]api.Move{{begin, done}, {begin, asks("x", 0)}, {tells("f", 0), done}, {wants("f", 1), gives("f", 1, 0)}, {faults, faults}} {
		wantPlay(t, p, append(slices.Clone(good), more...), false)
	}
	p = mustRead(t, "p : com |- com : p; fault")
	wantPlay(t, p, []api.Move{begin, asks("p", 0), tells("p", 0), faults}, true)
	wantPlay(t, p, []api.Move{begin, asks("p", 0), tells("p", 1), faults}, false)
	wantPlay(t, p, []api.Move{begin, asks("p", 0), tells("p", 0), {Name: "p", Fault: true}}, false)
	wantPlay(t, p, []api.Move{begin, asks("p", 0), tells("p", 0), faults, tells("p", 0), faults}, false)
}

// P4.8: it does not matter how many situations a piece has.
func TestPlayOfManySituations(t *testing.T) {
	p := mustRead(t, "p : com |- com : block out { "+counting(4095, "p", "exit out")+" }; fault")
	if _, err := moves.Plays(p); err != api.ErrFull {
		t.Errorf("4095 situations: error %d; want ErrFull", err)
	}
	play := []api.Move{begin}
	for range 4095 {
		play = append(play, asks("p", 0), tells("p", 0))
	}
	wantPlay(t, p, append(play, faults), true)
	wantPlay(t, p, append(play, asks("p", 0)), false)
	wantPlay(t, p, play[:8000], true)
	p = mustRead(t, "x : exp |- exp : x + (x + (x + (x + (x + (x + (x + x))))))")
	play = []api.Move{begin}
	for i := range 8 {
		play = append(play, asks("x", 0), tells("x", i*3%4))
	}
	wantPlay(t, p, append(play, tells("", 0)), true)
	wantPlay(t, p, append(play, tells("", 1)), false)
}
