package tell_test

import (
	"testing"

	"doppelganger/api"
	"doppelganger/tell"
)

// wantDiffer checks the difference of two texts, also of both exchanged.
func wantDiffer(t *testing.T, first, second, play string, isFirst bool) {
	t.Helper()
	p, q := mustRead(t, first), mustRead(t, second)
	if got, is, err := tell.Differ(p, q); show(got) != show(row(play)) || is != isFirst || err != api.OK {
		t.Errorf("Differ(%q, %q): %s, %t, error %d; want %s, %t", first, second, show(got), is, err, play, isFirst)
	}
	if got, is, err := tell.Differ(q, p); show(got) != show(row(play)) || is == isFirst || err != api.OK {
		t.Errorf("Differ(%q, %q): %s, %t, error %d; want %s, %t", second, first, show(got), is, err, play, !isFirst)
	}
	if same, err := tell.Same(p, q); same || err != api.OK {
		t.Errorf("Same(%q, %q): %t, error %d", first, second, same, err)
	}
}

// wantSame checks that two texts are told to be the same.
func wantSame(t *testing.T, first, second string) {
	t.Helper()
	p, q := mustRead(t, first), mustRead(t, second)
	if same, err := tell.Same(p, q); !same || err != api.OK {
		play, is, err := tell.Differ(p, q)
		t.Errorf("Same(%q, %q): %t, error %d; they differ by %s, %t", first, second, same, err, show(play), is)
	}
	if play, is, err := tell.Differ(p, q); len(play) != 0 || is || err != api.ErrSame {
		t.Errorf("Differ(%q, %q): %s, %t, error %d; want ErrSame alone", first, second, show(play), is, err)
	}
}

// wantWitness checks that a program tells two texts apart.
func wantWitness(t *testing.T, first, second string) {
	t.Helper()
	p, q := mustRead(t, first), mustRead(t, second)
	c, err := tell.Witness(p, q)
	if err != api.OK {
		t.Fatalf("Witness(%q, %q): error %d", first, second, err)
	}
	play, _, _ := tell.Differ(p, q)
	wantContext(t, c, p.Type(), len(play))
	a, short := filled(t, c, p)
	b, shorter := filled(t, c, q)
	if !short || !shorter || (a != faulted || b != never) && (a != never || b != faulted) {
		t.Errorf("Witness(%q, %q): %v, %v with %s", first, second, a, b, c.Text())
	}
}

// The chapter's table of examples.
func TestExamples(t *testing.T) {
	wantSame(t, "p : com |- com : skip; p", "p : com |- com : p")
	wantDiffer(t, "p : com |- com : p; stop", "p : com |- com : stop", "? p?", true)
	wantDiffer(t, "x : exp |- exp : x + x", "x : exp |- exp : x * 2", "? x? x!0 !0", false)
	wantDiffer(t, "f(com) : com |- com : f({ skip })", "f(com) : com |- com : f({ stop })", "? f? f.1? f.1!0", true)
	wantDiffer(t, "p : com |- com : p; fault", "p : com |- com : p", "? p? p!0 !0", false)
	wantWitness(t, "p : com |- com : p; fault", "p : com |- com : p")
	wantSame(t, "x : exp |- exp : new y = x [ y + y ]", "x : exp |- exp : x * 2")
	if _, err := tell.Same(mustRead(t, "p : com |- com : skip"), mustRead(t, "|- com : skip")); err != api.ErrType {
		t.Errorf("other declarations: error %d", err)
	}
	c := mustContext(t, mustRead(t, "p : com |- com : p"), row("? p? p!0 p?"))
	for text, want := range map[string]outcome{"p : com |- com : p; p": faulted, "p : com |- com : p": never} {
		if got, ok := filled(t, c, mustRead(t, text)); got != want || !ok {
			t.Errorf("with %s in it: %v", text, got)
		}
	}
	for _, play := range []string{"?", "? !0 ?", "? p!0"} {
		if c, err := tell.Context([]api.Decl{{Name: "p"}}, api.Com, row(play)); c != nil || err != api.ErrForm {
			t.Errorf("Context of %s: error %d; want ErrForm", play, err)
		}
	}
	p, q := mustRead(t, "p : com |- com : p"), mustRead(t, "p : com |- com : p; p")
	for _, pairs := range [][]api.Pair{nil, {{A: 0, B: 0}}, {{A: 0, B: 0}, {A: 1, B: 1}, {A: 2, B: 2}}, {{A: 9, B: 9}}} {
		if err := tell.Check(p, q, pairs); err != api.ErrForm && err != api.ErrApart {
			t.Errorf("Check of %v: error %d; want ErrForm or ErrApart", pairs, err)
		}
	}
}

// The document's examples 1 to 6.
func TestExamplesOfTheDocument(t *testing.T) {
	wantSame(t, "p : com |- com : p; skip", "p : com |- com : p")
	wantDiffer(t, "p : com |- com : p; stop", "p : com |- com : stop", "? p?", true)
	wantSame(t, "p : com |- com : new x = 0 { p; if x { fault } { skip } }", "p : com |- com : p")
	wantDiffer(t, "f(com) : com |- com : f({ skip })", "f(com) : com |- com : f({ stop })", "? f? f.1? f.1!0", true)
	wantDiffer(t, "x : exp |- exp : x + x", "x : exp |- exp : x * 2", "? x? x!0 !0", false)
	wantSame(t, "x : exp |- exp : new y = x [ y + y ]", "x : exp |- exp : x * 2")
	if _, err := tell.Same(mustRead(t, "p : com |- com : p; stop"), mustRead(t, "|- com : stop")); err != api.ErrType {
		t.Errorf("other declarations: error %d", err)
	}
}
