package tell_test

import (
	"testing"

	"doppelganger/api"
	"doppelganger/auto"
	"doppelganger/lang"
	"doppelganger/moves"
	"doppelganger/tell"
)

// Pieces that are good for errors.
const (
	beyond   = "f(com) : com |- com : f({ block k { f({ exit k }) } })"
	within   = "f(com) : com |- com : f({ skip })"
	holed    = "f(com) : com, hole : com |- com : f({ skip })"
	holedToo = "f(com) : com, hole : com |- com : hole"
	holedFar = "f(com) : com, hole : com |- com : f({ block k { f({ exit k }) } })"
)

// wantErrors checks what each function with two pieces returns; nothing else comes with an error.
func wantErrors(t *testing.T, p, q *lang.Piece, same, differ, witness, certify, check api.Errno) {
	t.Helper()
	if is, err := tell.Same(p, q); is != (err == api.OK && differ == api.ErrSame) || err != same {
		t.Errorf("Same(%q, %q): %t, error %d; want error %d", p.Text(), q.Text(), is, err, same)
	}
	if play, first, err := tell.Differ(p, q); err != differ || err != api.OK && (len(play) != 0 || first) {
		t.Errorf("Differ(%q, %q): %s, %t, error %d; want error %d", p.Text(), q.Text(), show(play), first, err, differ)
	}
	if c, err := tell.Witness(p, q); err != witness || (c != nil) != (err == api.OK) {
		t.Errorf("Witness(%q, %q): %q, error %d; want error %d", p.Text(), q.Text(), c.Text(), err, witness)
	}
	if pairs, err := tell.Certify(p, q); err != certify || err != api.OK && len(pairs) != 0 {
		t.Errorf("Certify(%q, %q): %v, error %d; want error %d", p.Text(), q.Text(), pairs, err, certify)
	}
	for _, pairs := range [][]api.Pair{nil, {{A: 7, B: -9}}, {{A: 0, B: 0}, {A: 0, B: 0}}} {
		err := tell.Check(p, q, pairs)
		if pairs == nil && err != check || pairs != nil && check != api.OK && check != api.ErrApart && err != check {
			t.Errorf("Check(%q, %q, %v): error %d; want %d", p.Text(), q.Text(), pairs, err, check)
		}
	}
}

func wantError(t *testing.T, p, q *lang.Piece, want api.Errno) {
	t.Helper()
	wantErrors(t, p, q, want, want, want, want, want)
	wantErrors(t, q, p, want, want, want, want, want)
}

// P5.1, P1 of DOC.md: nil and the zero value come ahead of all other errors.
func TestNoPieces(t *testing.T) {
	for _, none := range []*lang.Piece{nil, {}} {
		for _, other := range []*lang.Piece{
			nil, {}, mustRead(t, "|- com : skip"), mustRead(t, "|- exp : 1"), mustRead(t, "p : com |- com : p"),
			mustRead(t, beyond), mustRead(t, holed), mustRead(t, holedFar),
		} {
			wantError(t, none, other, api.ErrArg)
		}
	}
}

// P5.1: pieces are comparable that have the same declarations and the same type; that they are not comes ahead of ErrName and ErrFull.
func TestComparable(t *testing.T) {
	first := mustRead(t, "f(com, val) : exp, p : com |- com : p")
	for _, text := range []string{
		"f(com, val) : exp, p : com |- exp : 1",
		"f(com, val) : exp |- com : skip",
		"p : com |- com : p",
		"|- com : skip",
		"f(com, val) : exp, p : com, q : com |- com : p",
		"f(com, val) : exp, q : com |- com : q",
		"g(com, val) : exp, p : com |- com : p",
		"f(com, val) : com, p : com |- com : p",
		"f(com, val) : exp, p : exp |- com : skip",
		"f(com, exp) : exp, p : com |- com : p",
		"f(val, com) : exp, p : com |- com : p",
		"f(com) : exp, p : com |- com : p",
		"f(com, val, val) : exp, p : com |- com : p",
		"f(com, val) : exp, p(com) : com |- com : skip",
		"f(com, val) : exp, hole : com |- com : hole",
		beyond, holed, holedFar,
	} {
		wantError(t, first, mustRead(t, text), api.ErrType)
	}
	// As many letters, but other ones.
	wantError(t, mustRead(t, "p : com, q : exp |- com : p"), mustRead(t, "p : exp, q : com |- com : skip"), api.ErrType)
	wantError(t, mustRead(t, "f(com) : com, g(exp) : com |- com : f({ skip })"), mustRead(t, "f(exp) : com, g(com) : com |- com : skip"), api.ErrType)
	wantError(t, mustRead(t, "p : com |- exp : 1"), mustRead(t, "q : com |- exp : 1"), api.ErrType)
	// Ahead of ErrFull and ErrName.
	wantError(t, mustRead(t, beyond), mustRead(t, "f(com) : com |- exp : 1"), api.ErrType)
	wantError(t, mustRead(t, beyond), mustRead(t, "f(com) : exp |- com : skip"), api.ErrType)
	wantError(t, mustRead(t, beyond), mustRead(t, "f(exp) : com |- com : skip"), api.ErrType)
	wantError(t, mustRead(t, holed), mustRead(t, "f(com) : com, hole : exp |- com : skip"), api.ErrType)
	wantError(t, mustRead(t, holedFar), mustRead(t, beyond), api.ErrType)
	wantError(t, mustRead(t, holed), mustRead(t, within), api.ErrType)
	wantSame(t, "f(com, val) : exp, p : com |- com : p", "p : com, f(com, val) : exp |- com : skip; p")
	wantSame(t, "|- exp : 3", "|- exp : 1 + 2")
}

// P5.1: what Plays returns of the one or the other.
func TestTooGreat(t *testing.T) {
	wantError(t, mustRead(t, beyond), mustRead(t, within), api.ErrFull)
	wantError(t, mustRead(t, beyond), mustRead(t, beyond), api.ErrFull)
	wantError(t, mustRead(t, manyStates), mustRead(t, "x : exp |- com : skip"), api.ErrFull)
	wantError(t, mustRead(t, longRow), mustRead(t, "p : com |- com : p"), api.ErrFull)
}

// Pieces of which there is no machine.
const (
	manyStates = "x : exp |- com : new a = x { new b = x { new c = x { new d = x { new e = x { new f = x { new g = x { while a + b * c + d * e + f * g + x { a := b; b := c; c := d; d := e; e := f; f := g; g := x } } } } } } } }"
	longRow    = "p : com |- com : p; new a = 3 { while a { new b = 3 { while b { new c = 3 { while c { new d = 3 { while d { new e = 3 { while e { new f = 3 { while f { new g = 3 { while g { g := g - 1 } }; f := f - 1 } }; e := e - 1 } }; d := d - 1 } }; c := c - 1 } }; b := b - 1 } }; a := a - 1 } }; p"
)

// P5.5: a declaration of hole is an error of Witness alone, ahead of what Differ returns.
func TestDeclaredHole(t *testing.T) {
	p, q, far := mustRead(t, holed), mustRead(t, holedToo), mustRead(t, holedFar)
	wantErrors(t, p, q, api.OK, api.OK, api.ErrName, api.ErrApart, api.ErrApart)
	wantErrors(t, q, p, api.OK, api.OK, api.ErrName, api.ErrApart, api.ErrApart)
	wantErrors(t, p, p, api.OK, api.ErrSame, api.ErrName, api.OK, api.ErrApart)
	wantErrors(t, p, far, api.ErrFull, api.ErrFull, api.ErrName, api.ErrFull, api.ErrFull)
	wantErrors(t, far, q, api.ErrFull, api.ErrFull, api.ErrName, api.ErrFull, api.ErrFull)
	for _, text := range []string{"hole : exp |- exp : hole", "hole(com) : com |- com : skip", "a : com, hole(val, exp) : exp, z : exp |- exp : z"} {
		p := mustRead(t, text)
		wantErrors(t, p, p, api.OK, api.ErrSame, api.ErrName, api.OK, api.ErrApart)
	}
}

// P5.1, P5.2, P5.5, P5.6: pieces that are the same, and pieces that are apart.
func TestErrorsOfSameness(t *testing.T) {
	p, q := mustRead(t, "p : com |- com : p; skip"), mustRead(t, "p : com |- com : p; p")
	wantErrors(t, p, p, api.OK, api.ErrSame, api.ErrSame, api.OK, api.ErrApart)
	wantErrors(t, p, q, api.OK, api.OK, api.OK, api.ErrApart, api.ErrApart)
	// The only pairs that show it are none if no play is there.
	p, q = mustRead(t, "p : com |- com : stop"), mustRead(t, "p : com |- com : while 1 { skip }")
	wantErrors(t, p, q, api.OK, api.ErrSame, api.ErrSame, api.OK, api.OK)
}

// P5.5: a play of more than 12 moves may be too much for a witness.
func TestGreatWitness(t *testing.T) {
	full := false
	for count := 1; count <= 16; count++ {
		p, q := mustRead(t, chain(count, "0")), mustRead(t, chain(count, "1"))
		play, _, err := tell.Differ(p, q)
		if err != api.OK {
			t.Fatalf("Differ of %d questions: error %d", count, err)
		}
		c, err := tell.Witness(p, q)
		if err != api.OK {
			full = true
			if err != api.ErrFull || len(play) <= 12 || c != nil {
				t.Errorf("a witness for %d moves: error %d", len(play), err)
			}
			continue
		}
		wantContext(t, c, api.Exp, len(play))
	}
	if full {
		t.Error("rows of 34 moves are too much")
	}
	p := mustRead(t, "x : exp |- com : "+counter(700, "x"))
	q := mustRead(t, "x : exp |- com : "+counter(701, "x"))
	play, _, err := tell.Differ(p, q)
	if err != api.OK || len(play) < 1400 {
		t.Fatalf("Differ: %d moves, error %d", len(play), err)
	}
	if c, err := tell.Witness(p, q); c != nil || err != api.ErrFull {
		t.Errorf("Witness: %q, error %d; want ErrFull", c.Text(), err)
	}
}

// P5.6: Certify and Check are auto's, on the machines of the pieces.
func TestErrorsOfCheck(t *testing.T) {
	p, q := mustRead(t, "x : exp |- exp : x + x"), mustRead(t, "x : exp |- exp : new y = x [ x + y ]")
	a, _ := moves.Plays(p)
	b, _ := moves.Plays(q)
	for _, pairs := range [][]api.Pair{nil, {{A: 0, B: 0}}, {{A: 1, B: 0}, {A: 0, B: 0}}, {{A: -1, B: -1}}, {{A: 0, B: len(b.Next)}}} {
		if got, want := tell.Check(p, q, pairs), auto.Check(a, b, pairs); got != want || got == api.OK {
			t.Errorf("Check of %v: error %d; want %d", pairs, got, want)
		}
	}
}
