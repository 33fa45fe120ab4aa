package rules_test

import (
	"reflect"
	"strings"
	"testing"

	"doppelganger/api"
	"doppelganger/lang"
	"doppelganger/rules"
)

// unknowns are the declarations of the rules that are written as "left ~ right".
const unknowns = "p : com, q : com, x : exp, y : exp"

// mustRead reads a text that is right.
func mustRead(t *testing.T, text string) *lang.Piece {
	t.Helper()
	p, err := lang.Read(text)
	if err != api.OK {
		t.Fatalf("Read(%.300q): error %d", text, err)
	}
	return p
}

// sides returns the sides of a rule: with the usual unknowns, as commands if these fit, or as they are if they are whole pieces.
func sides(t *testing.T, text string) (left, right *lang.Piece) {
	t.Helper()
	first, second, ok := strings.Cut(text, " ~ ")
	if !ok {
		t.Fatalf("no rule: %s", text)
	}
	if strings.Contains(first, "|-") {
		return mustRead(t, first), mustRead(t, second)
	}
	for _, typ := range []string{"com", "exp"} {
		head := unknowns + " |- " + typ + " : "
		left, err := lang.Read(head + first)
		right, other := lang.Read(head + second)
		if err == api.OK && other == api.OK {
			return left, right
		}
	}
	t.Fatalf("no rule: %s", text)
	return nil, nil
}

// mustBook returns a book with some rules.
func mustBook(t *testing.T, texts ...string) *rules.Book {
	t.Helper()
	b := rules.New()
	for _, text := range texts {
		if err := b.Add(sides(t, text)); err != api.OK {
			t.Fatalf("Add of %s: error %d", text, err)
		}
	}
	return b
}

// wantPiece checks that a piece is that of a text, node by node.
func wantPiece(t *testing.T, what string, p *lang.Piece, err api.Errno, text string) {
	t.Helper()
	if err != api.OK || p == nil {
		t.Errorf("%s: error %d; want %s", what, err, text)
		return
	}
	if want := mustRead(t, text); p.Text() != want.Text() || !reflect.DeepEqual(p.Nodes(), want.Nodes()) {
		t.Errorf("%s: %s; want %s", what, p.Text(), want.Text())
	}
}

// wantNoPiece checks that there is an error, and nothing else.
func wantNoPiece(t *testing.T, what string, p *lang.Piece, err, want api.Errno) {
	t.Helper()
	if err != want || p != nil {
		t.Errorf("%s: %s, error %d; want error %d", what, p.Text(), err, want)
	}
}

// direction tells in texts which way a rule is applied.
func direction(back bool) string {
	if back {
		return " back"
	}
	return ""
}

// wantApply checks what comes of a rule at a node of a text; the text that is wanted has the same declarations, and is empty for ErrApart.
func wantApply(t *testing.T, rule string, back bool, text string, node int, want string) {
	t.Helper()
	p := mustRead(t, text)
	got, err := mustBook(t, rule).Apply(0, back, p, node)
	what := "Apply of " + rule + direction(back) + " to " + text
	if want == "" {
		wantNoPiece(t, what, got, err, api.ErrApart)
		return
	}
	head, _, _ := strings.Cut(text, "|-")
	head += "|- " + []string{"com", "exp"}[p.Type()] + " : "
	wantPiece(t, what, got, err, head+want)
}
