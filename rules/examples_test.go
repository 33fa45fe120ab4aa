package rules_test

import (
	"slices"
	"testing"

	"doppelganger/api"
	"doppelganger/rules"
)

// wantSimplify checks what comes of a text, and by which rules.
func wantSimplify(t *testing.T, b *rules.Book, text, want string, numbers ...int) {
	t.Helper()
	p, got, err := b.Simplify(mustRead(t, text))
	wantPiece(t, "Simplify of "+text, p, err, want)
	if !slices.Equal(got, numbers) {
		t.Errorf("Simplify of %s: by the rules %v; want %v", text, got, numbers)
	}
}

// wantAdd checks what comes of adding a rule to a book without rules.
func wantAdd(t *testing.T, text string, want api.Errno) {
	t.Helper()
	b := rules.New()
	left, right := sides(t, text)
	if err := b.Add(left, right); err != want {
		t.Errorf("Add of %s: error %d; want %d", text, err, want)
	}
	count := 0
	if want == api.OK {
		count = 1
	}
	if b.Len() != count {
		t.Errorf("Add of %s: %d rules; want %d", text, b.Len(), count)
	}
}

// The chapter's table of examples.
func TestExamples(t *testing.T) {
	wantAdd(t, "skip; p ~ p", api.OK)
	wantAdd(t, "p; q ~ q; p", api.ErrApart)
	wantAdd(t, "skip ~ if x { skip } { skip }", api.ErrName)
	wantAdd(t, "f(com) : com |- com : skip ~ f(com) : com |- com : skip", api.ErrType)

	const row = "|- com : skip; skip; fault"
	wantApply(t, "skip; p ~ p", false, row, 0, "")
	wantApply(t, "skip; p ~ p", false, row, 1, "skip; fault")
	wantApply(t, "skip; p ~ p", false, row, 4, "")
	wantSimplify(t, mustBook(t, "skip; p ~ p"), row, "|- com : fault", 0, 0)
	wantApply(t, "skip; p ~ p", true, "|- com : fault", 0, "skip; fault")

	wantApply(t, "new a = 0 { p } ~ p", false, "|- com : new a = 0 { a := 1 }", 0, "")
	wantApply(t, "new a = 0 { p } ~ p", false, "q : com |- com : new a = 0 { q }", 0, "q")
	wantApply(t, "block k { p } ~ p", false, "|- com : block k { exit k }", 0, "")
	wantApply(t, "block k { p } ~ p", false, "|- com : block j { block k { exit j } }", 1, "block j { exit j }")
	wantApply(t, "x + x ~ x + x", false, "|- exp : new a = 1 [ a + a ]", 2, "new a = 1 [ a + a ]")
	wantApply(t, "x + x ~ x + x", false, "|- exp : 1 + 2", 0, "")
}

// The document's example 9, and the chapter's row "u; v".
func TestExamplesOfTheDocument(t *testing.T) {
	const rule = "p : com |- com : skip; p ~ p : com |- com : p"
	wantApply(t, rule, false, "|- com : skip; fault", 0, "fault")
	wantSimplify(t, mustBook(t, rule), "|- com : skip; fault", "|- com : fault", 0)
	wantSimplify(t, mustBook(t, rule), "|- com : skip; skip; fault", "|- com : fault", 0, 0)

	const row = "a : com, b : com, c : com |- com : a; b; c"
	const pair = "u : com, v : com |- com : u; v ~ u : com, v : com |- com : u; skip; v"
	wantApply(t, pair, false, row, 0, "a; b; skip; c")
	wantApply(t, pair, false, row, 1, "a; skip; b; c")
	for node := 2; node <= 4; node++ {
		wantApply(t, pair, false, row, node, "")
	}
}
