package tell_test

import (
	"slices"
	"strings"
	"testing"

	"doppelganger/api"
	"doppelganger/lang"
	"doppelganger/tell"
)

// P5.4: the errors of Context, in their order.
func TestErrorsOfContext(t *testing.T) {
	p, hole := api.Decl{Name: "p"}, api.Decl{Name: "hole"}
	four := []api.Type{api.Com, api.Com, api.Com, api.Com}
	good, bad, long := row("? !0"), row("? ?"), slices.Repeat(row("? !0"), 400)
	for _, c := range []struct {
		decls []api.Decl
		typ   api.Type
		want  api.Errno
	}{
		{nil, api.Com, api.OK},
		{[]api.Decl{p}, api.Exp, api.OK},
		{nil, api.Val, api.ErrArg},
		{nil, -1, api.ErrArg},
		{nil, 3, api.ErrArg},
		{[]api.Decl{hole}, api.Val, api.ErrArg},
		{[]api.Decl{p, p}, api.Com, api.ErrArg},
		{[]api.Decl{hole, hole}, api.Com, api.ErrArg},
		{[]api.Decl{hole, p, p}, api.Com, api.ErrArg},
		{[]api.Decl{p, {Name: "q"}, {Name: "r"}, {Name: "s"}, hole}, api.Com, api.ErrArg},
		{[]api.Decl{{Name: ""}}, api.Com, api.ErrArg},
		{[]api.Decl{{Name: "P"}}, api.Com, api.ErrArg},
		{[]api.Decl{{Name: "p "}}, api.Com, api.ErrArg},
		{[]api.Decl{{Name: "skip"}}, api.Com, api.ErrArg},
		{[]api.Decl{{Name: "val"}}, api.Com, api.ErrArg},
		{[]api.Decl{{Name: "abcdefghi"}}, api.Com, api.ErrArg},
		{[]api.Decl{{Name: "p", Result: api.Val}}, api.Com, api.ErrArg},
		{[]api.Decl{{Name: "p", Result: -1}}, api.Com, api.ErrArg},
		{[]api.Decl{{Name: "p", Args: four}}, api.Com, api.ErrArg},
		{[]api.Decl{{Name: "p", Args: []api.Type{3}}}, api.Com, api.ErrArg},
		{[]api.Decl{{Name: "hole", Args: []api.Type{-1}}, p}, api.Com, api.ErrArg},
		{[]api.Decl{hole}, api.Com, api.ErrName},
		{[]api.Decl{p, hole}, api.Exp, api.ErrName},
		{[]api.Decl{{Name: "hole", Args: []api.Type{api.Com}, Result: api.Exp}, p}, api.Com, api.ErrName},
	} {
		for _, play := range [][]api.Move{good, bad, nil, long} {
			want := c.want
			if want == api.OK && !slices.Equal(play, good) {
				want = api.ErrForm
			}
			if got, err := tell.Context(c.decls, c.typ, play); err != want || (got != nil) != (err == api.OK) {
				t.Errorf("Context of %v, %d, %d moves: error %d; want %d", c.decls, c.typ, len(play), err, want)
			}
		}
	}
}

// wantOutcome checks what comes of the context of a play with texts in it.
func wantOutcome(t *testing.T, play string, want outcome, texts ...string) {
	t.Helper()
	for _, text := range texts {
		p := mustRead(t, text)
		c := mustContext(t, p, row(play))
		if got, ok := filled(t, c, p); got != want || !ok {
			t.Errorf("the context of %s, with %s in it: %v, %t; want %v\n%s", play, text, got, ok, want, c.Text())
		}
	}
}

// P5.4: pieces that have the play, none of it, all but the last move, and pieces that fault along it.
func TestContexts(t *testing.T) {
	p := "p : com |- com : "
	wantOutcome(t, "? !0", faulted, p+"skip", p+"new x = 1 { x := 2 }", p+"fault", p+"skip; fault")
	wantOutcome(t, "? !0", never, p+"p", p+"stop", p+"p; fault", p+"p; p")
	wantOutcome(t, "? fault", faulted, p+"fault", p+"skip; fault; p")
	wantOutcome(t, "? fault", never, p+"skip", p+"p", p+"stop", p+"p; fault")
	wantOutcome(t, "? p?", faulted, p+"p", p+"p; stop", p+"p; p; fault", p+"fault")
	wantOutcome(t, "? p?", never, p+"skip", p+"stop")
	wantOutcome(t, "? p? p!0 p? p!0 !0", faulted, p+"p; p", p+"fault", p+"p; fault", p+"p; p; fault")
	wantOutcome(t, "? p? p!0 p? p!0 !0", never, p+"skip", p+"p", p+"p; p; p", p+"p; p; stop", p+"stop", p+"while 1 { p }")
	wantOutcome(t, "? p? p!0 p? p!0 fault", faulted, p+"p; p; fault", p+"p; fault", p+"fault")
	wantOutcome(t, "? p? p!0 p? p!0 fault", never, p+"p; p", p+"p; p; p; fault", p+"p; p; stop", p+"p", p+"skip")
	wantOutcome(t, "? p? p!0 p? p!0 p? p!0 p? p!0 p?", faulted, p+"while 1 { p }", p+"p; p; p; p; p")
	wantOutcome(t, "? p? p!0 p? p!0 p? p!0 p? p!0 p?", never, p+"p; p; p; p", p+"p; p; p; p; stop")
}

// P5.4: values of answers, of both sides.
func TestContextsOfValues(t *testing.T) {
	x := "x : exp |- exp : "
	wantOutcome(t, "? x? x!2 x? x!3 !1", faulted, x+"x + x", x+"x * x - 1", x+"if x [ fault ] [ 1 ]", x+"x + x + fault")
	wantOutcome(t, "? x? x!2 x? x!3 !1", never, x+"x * 2", x+"x * x", x+"x + x + 1", x+"x + x + x", x+"1", x+"x - x + x")
	wantOutcome(t, "? !3", faulted, x+"3", x+"1 + 2", x+"fault")
	wantOutcome(t, "? !3", never, x+"2", x+"0", x+"x", x+"stop")
	wantOutcome(t, "? !0", never, x+"1", x+"x * 0")
	wantOutcome(t, "? x? x!0 x? x!1 x? x!2 x? x!3 !0", faulted, x+"do { while x < 3 { skip } } [ 0 ]", x+"x + x + x + x + 2")
	wantOutcome(t, "? x? x!0 x? x!1 x? x!2 x? x!3 !0", never, x+"do { while x < 2 { skip } } [ 0 ]", x+"x + x + x + x + 1")
	f := "f(val, com, val) : exp |- com : "
	wantOutcome(t, "? f(2,3)? f!3 !0", faulted, f+"new y = f(2, { skip }, 3) { if y == 3 { skip } { stop } }", f+"new y = 2 { y := f(y, { y := 1 }, y + 1) }")
	wantOutcome(t, "? f(2,3)? f!3 !0", never, f+"new y = f(3, { skip }, 2) { skip }", f+"new y = f(2, { skip }, 2) { skip }", f+"new y = f(2, { fault }, 3) { if y == 2 { skip } { stop } }", f+"new y = f(1, { fault }, 3) { skip }")
}

// P5.4: questions about arguments.
func TestContextsOfArguments(t *testing.T) {
	f := "f(com, exp) : com, p : com |- com : "
	play := "? f? f.1? p? p!0 f.1!0 f.2? f.2!1 f!0 !0"
	wantOutcome(t, play, faulted, f+"f({ p }, 1)", f+"new n = 0 { f({ p; n := n + 1 }, n) }", f+"f({ p }, fault)", f+"f({ fault }, 1)", f+"f({ p; fault }, 2)", f+"f({ p }, 1); fault")
	wantOutcome(t, play, never, f+"f({ p }, 2)", f+"f({ p; p }, 1)", f+"f({ skip }, 1)", f+"f({ p }, 1); p", f+"p; f({ p }, 1)", f+"block k { f({ p }, exit k) }", f+"f({ p }, 0)", f+"f({ p }, do { p } [ 1 ])")
	wantOutcome(t, "? f? f.2? f.2!0 f.2? f.2!1 f.2? f.2!2", faulted, f+"new n = 3 { f({ skip }, do { n := n + 1 } [ n ]) }")
	wantOutcome(t, "? f? f.2? f.2!0 f.2? f.2!1 f.2? f.2!2", never, f+"new n = 0 { f({ skip }, do { n := n + 1 } [ n ]) }", f+"f({ skip }, 0)")
	wantOutcome(t, "? f? f.1? !0", faulted, f+"block k { f({ exit k }, 0) }", f+"block k { f({ exit k }, exit k); p }", f+"f({ fault }, 0)")
	wantOutcome(t, "? f? f.1? !0", never, f+"f({ skip }, 0)", f+"block k { f({ exit k }, 0) }; p", f+"block k { f({ p; exit k }, 0) }", f+"f({ block k { exit k } }, 0)")
	wantOutcome(t, "? f? f.1? f? f!0 f.1!0 f.1? f? f.1? fault", faulted, f+"new n = 0 { f({ n := n + 1; f({ if n == 2 { fault } { stop } }, 0) }, 0) }")
	g := "f(com) : com, g(com) : exp |- com : "
	play = "? f? f.1? g? g.1? f.1!0 f!0 !0"
	wantOutcome(t, play, faulted, g+"f({ block k { new y = g({ exit k }) { skip } } })")
	wantOutcome(t, play, never, g+"f({ new y = g({ skip }) { skip } })", g+"block k { f({ new y = g({ exit k }) { skip } }) }", g+"f({ block k { new y = g({ exit k }) { skip } } }); f({ skip })")
}

// P5.4: arguments within arguments, also of the same name, in pieces beyond the border (P4.9), too.
func TestContextsBeyondTheBorder(t *testing.T) {
	f := "f(com) : com |- com : "
	play := "? f? f.1? f? f.1? f.1!0 f!0 "
	outer, inner := f+"f({ block k { f({ exit k }) } })", f+"f({ f({ skip }) })"
	wantOutcome(t, play+"!0", faulted, outer)
	wantOutcome(t, play+"!0", never, inner, outer+"; f({ skip })")
	wantOutcome(t, play+"f.1!0 f!0 !0", faulted, inner)
	wantOutcome(t, play+"f.1!0 f!0 !0", never, outer, inner+"; f({ skip })")
	wantOutcome(t, play+"f?", faulted, outer+"; f({ skip })")
	wantOutcome(t, play+"f?", never, outer, inner)
	wantOutcome(t, "? f? f.1? f? f.1? f.1!0 f.1? f.1!0", faulted, inner)
	wantOutcome(t, "? f? f.1? f? f.1? f.1!0 f.1? f.1!0", never, outer)
	wantOutcome(t, "? f? f.1? f? f.1? f.1!0 f.1? f?", faulted, outer)
	wantOutcome(t, "? f? f.1? f? f.1? f.1!0 f.1? f?", never, inner)
}

// P5.4: names that a context might want for itself.
func TestContextsOfAllNames(t *testing.T) {
	const (
		text  = "A(com, exp, val) : com, B(exp) : exp, C : com, D : exp |- exp : do { A({ C }, B(D), 3) } [ D ]"
		other = "A(com, exp, val) : com, B(exp) : exp, C : com, D : exp |- exp : do { A({ C }, B(D + 1), 3) } [ D ]"
		play  = "? A(3)? A.1? C? C!0 A.1!0 A.2? B? B.1? D? D!2 B.1!2"
	)
	letters := "abcdefghijklmnopqrstuvwxyz"
	for first := range len(letters) {
		for step := 1; step < 6; step++ {
			name := func(i int) string { return string(letters[(first+i*step)%len(letters)]) }
			named := strings.NewReplacer("A", name(0), "B", name(1), "C", name(2), "D", name(3))
			wantOutcome(t, named.Replace(play), faulted, named.Replace(text))
			wantOutcome(t, named.Replace(play), never, named.Replace(other))
		}
	}
}

// P5.4: rows of at most 12 moves: at most 400 nodes, and hole at most 12 levels deep.
func TestSizes(t *testing.T) {
	a := newAuthor(9)
	p := mustRead(t, "abcdefgh(exp, exp, exp) : exp, b(val, val, val) : exp, c(exp, val, exp) : exp, d(val, val, exp) : exp |- exp : 1")
	for _, play := range []string{
		"? b(1,2,3)? b!3 b(2,3,1)? b!2 b(3,1,2)? b!1 b(3,3,3)? b!3 b(1,1,1)? b!3 b(2,2,2)?",
		"? b(1,2,3)? b!3 d(2,3)? d.3? d.3!3 d!3 c(3)? c.1? c.1!3 c.3? c.3!2",
		"? abcdefgh? abcdefgh.1? abcdefgh.1!1 abcdefgh.2? abcdefgh.2!2 abcdefgh.3? abcdefgh.3!3 abcdefgh.1? abcdefgh.1!3 abcdefgh.2? abcdefgh.2!1",
		"? abcdefgh? abcdefgh.1? b(1,2,3)? b!3 c(3)? c.1? d(2,3)? d.3? abcdefgh? abcdefgh.3? b(3,3,3)?",
		"? d(1,2)? d.3? d(2,3)? d.3? d(3,1)? d.3? d(2,2)? d.3? d(1,1)? d!3 !3",
		"? c(1)? c.1? c.1!2 c.3? c.3!1 c.1? c.1!3 c.3? c.3!2 c!3 !3",
	} {
		if len(row(play)) != 12 {
			t.Errorf("%s has %d moves", play, len(row(play)))
		}
		mustContext(t, p, row(play))
	}
	for range 1000 {
		play := a.possible(p.Decls(), api.Exp, 12)
		mustContext(t, p, play)
	}
	for i := range 2000 {
		s := settings[i%len(settings)]
		mustContext(t, mustRead(t, a.text(s.decls, s.typ, 1)), a.possible(s.decls, s.typ, 12))
	}
}

// P5.4: longer rows come to the same, or are too great.
func TestLongPlays(t *testing.T) {
	text := "x : exp |- com : while x { skip }"
	p, q := mustRead(t, text), mustRead(t, text+"; stop")
	for rounds := 6; rounds < 35; rounds++ {
		play := row("? x?")
		for i := range rounds {
			play = append(play, api.Move{Name: "x", Answer: true, Value: 1 + (i+i/5)%3}, api.Move{Name: "x"})
		}
		if got := wantFollowed(t, p, play); got != faulted {
			t.Errorf("%d moves: %v", len(play), got)
		}
		play = append(play, row("x!0 !0")...)
		if a, b := wantFollowed(t, p, play), wantFollowed(t, q, play); a != faulted || b != never {
			t.Errorf("%d moves: %v, %v", len(play), a, b)
		}
		play[8].Value = 0
		if got := wantFollowed(t, p, play); got != never {
			t.Errorf("%d moves: %v", len(play), got)
		}
	}
	for _, rounds := range []int{700, 5000} {
		play := row("? x?")
		for i := range rounds {
			play = append(play, api.Move{Name: "x", Answer: true, Value: 1 + (i+i/7)%3}, api.Move{Name: "x"})
		}
		if c, err := tell.Context(p.Decls(), p.Type(), play); c != nil || err != api.ErrFull {
			t.Errorf("Context of %d moves: error %d; want ErrFull", len(play), err)
		}
	}
}

// P5.4: all rounds between the longest rows that fit and those that do not.
func TestGreatContexts(t *testing.T) {
	a := newAuthor(11)
	good, full := 0, 0
	for i := range 400 {
		s := settings[2+i%(len(settings)-2)]
		play := a.possible(s.decls, s.typ, 14+2*(i%150))
		if len(play) <= 12 {
			continue
		}
		c, err := tell.Context(s.decls, s.typ, play)
		switch {
		case err == api.OK:
			good++
			wantContext(t, c, s.typ, len(play))
		case err == api.ErrFull && c == nil:
			full++
		default:
			t.Errorf("Context of %s: error %d", show(play), err)
		}
	}
	if good < 50 || full < 50 {
		t.Errorf("%d contexts, %d too great", good, full)
	}
}

// T3, P5.4: what comes of contexts with random pieces in them.
func TestRandomContexts(t *testing.T) {
	a := newAuthor(7)
	count := map[outcome]int{}
	for i := range 2500 {
		s := settings[i%len(settings)]
		p, m := a.piece(t, s.decls, s.typ, 8+a.Intn(25))
		play := a.played(p, m, 1+a.Intn(6))
		if len(play) == 0 || a.Intn(6) == 0 {
			play = a.possible(s.decls, s.typ, 12)
		}
		q := a.changed(p)
		r, _ := a.piece(t, s.decls, s.typ, 4+a.Intn(20))
		for _, piece := range []*lang.Piece{p, q, r} {
			count[wantFollowed(t, piece, play)]++
		}
		// The play but for the last move.
		last := len(play) - 1
		play[last] = a.other(play, s.decls, s.typ)
		count[wantFollowed(t, p, play)]++
		// The play with the fault at its end.
		play[last] = fault
		count[wantFollowed(t, p, play)]++
		count[wantFollowed(t, q, play)]++
		if t.Failed() {
			return
		}
	}
	if count[faulted] < 3000 || count[never] < 3000 {
		t.Errorf("too few of one kind: %v", count)
	}
}

// other returns a possible last move.
func (a *author) other(play []api.Move, decls []api.Decl, typ api.Type) api.Move {
	list := next(decls, typ, play[:len(play)-1])
	return list[a.Intn(len(list))]
}
