package tell_test

import (
	"slices"
	"testing"

	"doppelganger/api"
	"doppelganger/moves"
	"doppelganger/tell"
)

// isPossible reports whether there is a context for some moves, which are not too many.
func isPossible(t *testing.T, decls []api.Decl, typ api.Type, play []api.Move) bool {
	t.Helper()
	c, err := tell.Context(decls, typ, play)
	if err != api.OK && err != api.ErrForm || (c != nil) != (err == api.OK) {
		t.Errorf("Context of %s: error %d", show(play), err)
	}
	return err == api.OK
}

// wantPossible checks which rows of moves are possible for the declarations and the type of a text.
func wantPossible(t *testing.T, text string, want bool, rows ...string) {
	t.Helper()
	p := mustRead(t, text)
	for _, play := range rows {
		if got := isPossible(t, p.Decls(), p.Type(), row(play)); got != want {
			t.Errorf("%s is possible for %s: %t; want %t", play, text, got, want)
		}
	}
}

// P5.3: a row begins with the question about the piece, and ends with a move of the piece.
func TestEndsOfRows(t *testing.T) {
	p := "p : com |- com : p"
	wantPossible(t, p, true, "? !0", "? fault", "? p?", "? p? p!0 !0", "? p? p!0 fault", "? p? p!0 p?")
	wantPossible(t, p, false, "", "?", "!0", "fault", "p?", "p!0", "? p? p!0", "? p? p!0 p? p!0")
	wantPossible(t, p, false, "p? p!0", "!0 ?", "fault !0", "fault fault", "p? !0", "p!0 !0", "!0 !0", "p? ? p!0 !0")
	wantPossible(t, p, false, "? ?", "? p!0", "? p? p? !0", "? p? ? !0", "? p? !0 !0", "? p? fault !0", "? p? p!0 ?", "? p? p!0 p!0")
	wantPossible(t, "|- com : skip", true, "? !0", "? fault")
	wantPossible(t, "|- exp : 1", true, "? !0", "? !1", "? !2", "? !3", "? fault")
	wantPossible(t, "|- com : skip", false, "? ?", "? !0 ? !0", "? fault ? fault")
}

// P5.3: nothing comes behind the fault, or behind the answer to the question about the piece.
func TestBehindTheEnd(t *testing.T) {
	for _, end := range []string{"? !0", "? fault", "? f? f!0 !0", "? f? f!0 fault", "? f? f.1? !0", "? f? f.1? fault", "? f? f.1? f.1!0 f.1? !0"} {
		wantPossible(t, "f(com) : com |- com : skip", true, end)
		for _, more := range []string{" ? !0", " ? fault", " ? f?", " f!0 !0", " f.1? f.1!0", " f.1? fault", " f!0 f?", " fault fault", " !0 !0", " f.1? f?", " !0 fault", " fault !0"} {
			wantPossible(t, "f(com) : com |- com : skip", false, end+more)
		}
	}
}

// P5.3: each move is one of Letters.
func TestMovesOfRows(t *testing.T) {
	text := "f(com, val, exp) : exp, p : com |- com : p"
	wantPossible(t, text, true, "? f(3)? f!3 !0", "? f(0)? f.1? f.1!0", "? f(1)? f.3? f.3!3", "? p? p!0 fault")
	wantPossible(t, text, false, "? !1", "? p? p!1 !0", "? p(1)? p!0 !0", "? f(0)? f.1? f.1!1", "? q?", "? p? q!0 !0", "? f(0)? f.2? f.2!0", "? f(0)? f.4? f.4!0", "? p? p.1? p.1!0", "? p?  p!0 p.1!0")
	p := mustRead(t, text)
	for _, m := range []api.Move{
		{Name: "f", Value: 4}, {Name: "f", Value: -1}, {Name: "f", Arg: -1}, {Name: "p", Fault: true}, {Fault: true, Value: 1}, {Fault: true, Answer: true},
		{Fault: true, Arg: 1}, {Answer: true, Value: -1}, {Answer: true, Value: 4}, {Answer: true, Arg: 1}, {Value: 1}, {Arg: 1}, {Name: "f", Arg: 2}, {Name: "F"}, {Name: "f "},
		{Name: "f", Answer: true, Value: 2, Fault: true}, {Name: "hole"}, {Name: "p", Value: 1},
	} {
		for _, play := range [][]api.Move{{{}, m}, {m, {Answer: true}}, {m}, {{}, {Name: "f"}, m, {Answer: true}}, {{}, {Name: "f"}, {Name: "f", Answer: true}, m}, {{}, {Name: "f"}, {Name: "f", Arg: 1}, m}, {{}, fault, m}} {
			if isPossible(t, p.Decls(), p.Type(), play) {
				t.Errorf("%v is possible", play)
			}
		}
	}
}

// P5.3: the moves of the other side hang on the piece's last one.
func TestMovesOfTheOtherSide(t *testing.T) {
	text := "f(com, exp) : com, g(com) : com, p : com |- com : p"
	wantPossible(t, text, true,
		"? f? f!0 !0", "? f? f.1? f.1!0 f!0 !0", "? f? f.1? f.1!0 f.1? f.1!0", "? f? f.2? f.2!3 f.1? f.1!0", "? f? f.1? g? g!0 f.1!0",
		"? f? f.1? g? g.1? g.1!0 g!0 f.1!0", "? f? f.1? p? p!0 f.1!0 f.2? f.2!1 f!0 p?",
		"? f? f!0 g? g.1? fault", "? f? f!0 f? f!0 f? f.1? p?")
	wantPossible(t, text, false,
		"? p? f!0 !0", "? p? f.1? !0", "? f? g!0 !0", "? f? g.1? fault", "? f? p!0 fault", "? f? f.1!0 fault", "? f? f? fault",
		"? f? f.1? f.1!0 p!0 fault", "? f? f.1? f.1!0 g.1? fault", "? f? f.1? f.1!0 f.1!0 fault", "? f? f.1? g? f!0 fault", "? f? f.1? g? f.1? fault",
		"? f? f.1? g? f.2? fault", "? f? f!0 p? f!0 fault", "? f? f.1? p? p!0 f.1!0 p!0 fault", "? f? f.1? f.1!0 ? fault", "? f? f.1? f.1!0 fault fault",
		"? f? f.1? g? g.1? g.1!0 f!0 fault", "? f? f.1? g? g.1? f.1!0 g!0 fault", "? f? f.1? g? g.1? f.1!0 g.1? fault")
}

// P5.3: the moves of the piece.
func TestMovesOfThePiece(t *testing.T) {
	text := "f(com, exp) : com, g(com) : com, p : com |- com : p"
	wantPossible(t, text, false,
		"? f.1?", "? f.1!0", "? g.1!0", "? p? p!0 f.1!0", "? f? f!0 f.1!0", "? f? f.1? f.2!0", "? f? f.1? g.1!0", "? f? f.1? f!0", "? f? f.1? f.1?", "? f? f.1? ?",
		"? f? f.1? f.1!0 f!0 f.1!0", "? f? f.1? g? g!0 g.1!0", "? f? f.1? f.1!0 f.2? f.1!0", "? f? f.2? g? g.1? f.1!0", "? f? f.1? g? g.1? g.1!0 g!0 g.1!0")
	// An answer to a question about an argument may leave others open, as may that to the question about the piece.
	wantPossible(t, text, true,
		"? f? f.1? !0", "? f? f.1? g? g.1? f.1!0", "? f? f.1? g? g.1? f.1!0 f!0 !0", "? f? f.1? g? g.1? f.1!0 f.2? f.2!3", "? f? f.1? g? g.1? !0",
		"? f? f.1? g? g.1? f? f.2? f.2!0", "? f? f.1? g? g.1? f? f.2? g.1!0", "? f? f.1? g? g.1? f? f.2? f.1!0", "? f? f.1? g? g.1? p? p!0 f.1!0", "? f? f.1? g? g.1? f.1!0 f!0 p?")
	wantPossible(t, text, false, "? f? f.1? g? g.1? f.1!0 f!0 g.1!0", "? f? f.1? g? g.1? f.1!0 f!0 f.1!0", "? f? f.1? g? g.1? f.1!0 f.2? g.1!0", "? f? f.1? g? g.1? f? f.2? g.1!0 f!0 fault")
}

// P5.3: of questions about one argument the last one that is open is answered.
func TestArgumentWithinAnArgument(t *testing.T) {
	text := "f(com) : com, g(com) : com |- com : skip"
	wantPossible(t, text, true,
		"? f? f.1? f? f.1? f.1!0", "? f? f.1? f? f.1? f.1!0 f!0 f.1!0", "? f? f.1? f? f.1? f.1!0 f!0 f.1!0 f!0 !0", "? f? f.1? f? f.1? f.1!0 f.1? f.1!0 f!0 f.1!0 f.1? f.1!0 f!0 !0",
		"? f? f.1? f? f.1? f.1!0 f!0 !0", "? f? f.1? f? f!0 f.1!0 f!0 !0", "? f? f.1? g? g.1? f? f.1? f.1!0 f!0 f.1!0 f!0 !0", "? f? f.1? g? g.1? f? f.1? f.1!0 f!0 g.1!0 g!0 f.1!0 f!0 !0")
	wantPossible(t, text, false,
		"? f? f.1? f? f.1? f.1!0 f!0 f.1!0 f!0 f.1!0", "? f? f.1? f? f!0 f.1!0 f!0 f.1!0", "? f? f.1? g? g.1? f? f.1? f.1!0 f!0 f.1!0 f!0 f.1!0", "? f? f.1? g? g.1? f? f.1? f.1!0 f!0 f.1!0 g!0 !0",
		"? f? f.1? f? f.1? f.1!0 f!0 f.1!0 f!0 f!0 !0")
}

// next returns the moves that may follow a row of moves that is possible but for its end.
func next(decls []api.Decl, typ api.Type, play []api.Move) []api.Move {
	if len(play) == 0 {
		return []api.Move{{}}
	}
	letters := moves.Letters(decls, typ)
	open := openBehind(play)
	last := play[len(play)-1]
	var list []api.Move
	for _, m := range letters {
		question := api.Move{Name: m.Name, Arg: m.Arg}
		ofName := m.Name != "" && m.Arg == 0
		fits := false
		if len(play)%2 == 0 {
			over := last.Fault || last.Answer && last.Name == ""
			fits = !over && m.Name == last.Name && (ofName && m.Answer || m.Arg > 0 && !m.Answer)
		} else {
			fits = m.Fault || ofName && !m.Answer || !ofName && m.Answer && slices.Contains(open, question)
		}
		if fits {
			list = append(list, m)
		}
	}
	return list
}

// openBehind returns the questions that are open behind some moves, without values.
func openBehind(play []api.Move) []api.Move {
	var open []api.Move
	for _, m := range play {
		question := api.Move{Name: m.Name, Arg: m.Arg}
		if !m.Answer {
			open = append(open, question)
			continue
		}
		for open[len(open)-1] != question {
			open = open[:len(open)-1]
		}
		open = open[:len(open)-1]
	}
	return open
}

// possible writes a random row of moves that is possible, of at most some moves.
func (a *author) possible(decls []api.Decl, typ api.Type, most int) []api.Move {
	var play []api.Move
	for len(play) < most {
		list := next(decls, typ, play)
		if len(list) == 0 {
			break
		}
		m := list[a.Intn(len(list))]
		if len(play) < most-2 && len(play)%2 == 1 && a.Intn(8) > 0 { // not yet the end
			if i := slices.IndexFunc(list, func(m api.Move) bool { return m.Name != "" }); i >= 0 {
				m = list[i+a.Intn(len(list)-i)]
			}
		}
		play = append(play, m)
	}
	return play
}

// P5.3: all rows of up to six moves, and longer ones at random.
func TestAllRows(t *testing.T) {
	a := newAuthor(3)
	for _, s := range settings[:6] {
		letters := moves.Letters(s.decls, s.typ)
		rows := [][]api.Move{nil}
		for range 3 {
			var longer [][]api.Move
			for _, play := range rows {
				for _, first := range letters {
					for _, second := range letters {
						whole := append(slices.Clone(play), first, second)
						want := slices.Contains(next(s.decls, s.typ, play), first) && slices.Contains(next(s.decls, s.typ, whole[:len(whole)-1]), second)
						if isPossible(t, s.decls, s.typ, whole) != want {
							t.Errorf("%s is possible: %t; want %t", show(whole), !want, want)
						}
						if want {
							longer = append(longer, whole)
						} else if isPossible(t, s.decls, s.typ, append(whole, letters[a.Intn(len(letters))], letters[a.Intn(len(letters))])) {
							t.Errorf("%s is no row, but the beginning of one", show(whole))
						}
					}
				}
			}
			rows = longer[:min(len(longer), 150)]
		}
	}
	for i := range 3000 {
		s := settings[i%len(settings)]
		play := a.possible(s.decls, s.typ, 12)
		if !isPossible(t, s.decls, s.typ, play) || isPossible(t, s.decls, s.typ, play[:len(play)-1]) {
			t.Errorf("%s should be possible, and not without its last move", show(play))
		}
		letters := moves.Letters(s.decls, s.typ)
		at := 1 + a.Intn(len(play)-1)
		changed := slices.Clone(play[:at+1])
		changed[at] = letters[a.Intn(len(letters))]
		want := at%2 == 1 && slices.Contains(next(s.decls, s.typ, changed[:at]), changed[at])
		if isPossible(t, s.decls, s.typ, changed) != want {
			t.Errorf("%s is possible: %t; want %t", show(changed), !want, want)
		}
	}
}

// P5.3: plays of pieces are possible.
func TestPlaysArePossible(t *testing.T) {
	a := newAuthor(4)
	long := 0
	for i := range 1500 {
		s := settings[i%len(settings)]
		p, m := a.piece(t, s.decls, s.typ, 10+a.Intn(25))
		play := a.played(p, m, 6)
		if len(play) > 0 && !isPossible(t, s.decls, s.typ, play) {
			t.Errorf("%s is a play of %s, but not possible", show(play), p.Text())
		}
		if len(play) > 6 {
			long++
		}
	}
	if long < 200 {
		t.Errorf("only %d long plays", long)
	}
}

// P5.3: rows of very many moves.
func TestLongRows(t *testing.T) {
	decls := []api.Decl{{Name: "f", Args: []api.Type{api.Com}}}
	deep := []api.Move{{}}
	for range 100000 {
		deep = append(deep, api.Move{Name: "f"}, api.Move{Name: "f", Arg: 1})
	}
	for _, c := range []struct {
		last api.Move
		want api.Errno
	}{{api.Move{Name: "f", Arg: 1, Answer: true}, api.ErrFull}, {api.Move{Answer: true}, api.ErrFull}, {api.Move{Name: "f", Answer: true}, api.ErrForm}} {
		if c2, err := tell.Context(decls, api.Com, append(deep, c.last)); c2 != nil || err != c.want {
			t.Errorf("a row of %d moves: error %d; want %d", len(deep)+1, err, c.want)
		}
	}
	if c, err := tell.Context(decls, api.Com, deep); c != nil || err != api.ErrForm {
		t.Errorf("a row without its last move: error %d; want ErrForm", err)
	}
}
