package rules_test

import (
	"slices"
	"strings"
	"testing"

	"doppelganger/api"
	"doppelganger/lang"
	"doppelganger/rules"
)

// P6.5, P1 of DOC.md: nil and the zero value.
func TestErrorsOfSimplify(t *testing.T) {
	p := mustRead(t, "|- com : skip; skip")
	for _, b := range []*rules.Book{nil, {}} {
		for _, q := range []*lang.Piece{nil, {}, p} {
			got, numbers, err := b.Simplify(q)
			wantNoPiece(t, "Simplify of no book", got, err, api.ErrArg)
			if len(numbers) != 0 {
				t.Errorf("Simplify of no book: rules %v", numbers)
			}
		}
	}
	for _, b := range []*rules.Book{rules.New(), mustBook(t, "skip; p ~ p")} {
		for _, q := range []*lang.Piece{nil, {}} {
			got, numbers, err := b.Simplify(q)
			wantNoPiece(t, "Simplify of no piece", got, err, api.ErrArg)
			if len(numbers) != 0 {
				t.Errorf("Simplify of no piece: rules %v", numbers)
			}
		}
	}
}

// P6.5: no rule can be applied.
func TestNothingToSimplify(t *testing.T) {
	wantSimplify(t, rules.New(), "|- com : skip; skip", "|- com : skip; skip")
	b := mustBook(t, "skip; p ~ p", "x + 0 ~ x", "new a = 0 { p } ~ p", "if x { p } { p } ~ new v = x { p }")
	for _, text := range []string{
		"|- com : skip", "|- exp : 0 + 1", "p : com |- com : p; skip", "|- com : new a = 0 { a := 1 }",
		"x : exp |- com : if x { skip } { stop }", "p : com, x : exp |- com : while x { p }",
	} {
		wantSimplify(t, b, text, text)
	}
}

// P6.5: rules that leave the number of nodes as it is, or make it greater, are not applied.
func TestRulesThatMakeNothingSmaller(t *testing.T) {
	b := mustBook(t, "p ~ p", "p ~ skip; p", "x + 1 ~ 1 + x", "p; q ~ p; q", "2 ~ 1 + 1", "if x { p } { p } ~ new v = x { p }", "x ~ x + 0", "block k { p } ~ block j { p }")
	for text, want := range map[string]string{
		"p : com |- com : p; p":                            "",
		"|- exp : 2 + 1":                                   "",
		"p : com |- com : block k { p }":                   "",
		"p : com |- com : if 2 { p } { p }":                "p : com |- com : new v = 2 { p }",
		"p : com |- com : if 2 + 1 { p; p } { p; p }":      "p : com |- com : new v = 2 + 1 { p; p }",
		"p : com |- com : block k { if 2 { p } { p } }; p": "p : com |- com : block k { new v = 2 { p } }; p",
	} {
		if want == "" {
			wantSimplify(t, b, text, text)
		} else {
			wantSimplify(t, b, text, want, 5)
		}
	}
	// How great the result is depends on what the unknowns stand for.
	b = mustBook(t, "if x { p } { q } ~ new v = x { if v { p } { if v { p } { q } } }", "new a = x { if a { p } { p } } ~ if 1 { if x { p } { p } } { p }", "do { if 0 { p } { p } } [ x ] ~ do { p } [ do { skip } [ x ] ]")
	wantSimplify(t, b, "|- exp : do { if 0 { stop } { stop } } [ 1 ]", "|- exp : do { stop } [ do { skip } [ 1 ] ]", 2)
	b = mustBook(t, "do { if 0 { q } { p } } [ x ] ~ do { p; skip } [ if 1 [ x ] [ x ] ]")
	wantSimplify(t, b, "|- exp : do { if 0 { skip } { stop } } [ 1 ]", "|- exp : do { if 0 { skip } { stop } } [ 1 ]")
	wantSimplify(t, b, "|- exp : do { if 0 { skip; skip } { stop } } [ 1 ]", "|- exp : do { if 0 { skip; skip } { stop } } [ 1 ]")
	wantSimplify(t, b, "|- exp : do { if 0 { skip; skip; skip } { stop } } [ 1 ]", "|- exp : do { stop; skip } [ if 1 [ 1 ] [ 1 ] ]", 0)
	wantSimplify(t, b, "|- exp : do { if 0 { skip; skip; skip } { stop } } [ 1 + 1 + 1 ]", "|- exp : do { if 0 { skip; skip; skip } { stop } } [ 1 + 1 + 1 ]")
}

// P6.5: the first node at which one can be applied, of these the first rule there, and then anew.
func TestFirstNodeAndFirstRule(t *testing.T) {
	drop, last, either := "skip; p ~ p", "p; skip ~ p", "if 1 { p } { q } ~ p"
	wantSimplify(t, mustBook(t, drop, last), "|- com : skip; skip", "|- com : skip", 0)
	wantSimplify(t, mustBook(t, last, drop), "|- com : skip; skip", "|- com : skip", 0)
	wantSimplify(t, mustBook(t, drop, last), "p : com |- com : skip; p; skip", "p : com |- com : p", 1, 0)
	wantSimplify(t, mustBook(t, last, drop), "p : com |- com : skip; p; skip", "p : com |- com : p", 0, 1)
	wantSimplify(t, mustBook(t, drop, either), "|- com : if 1 { skip; skip } { skip; skip }", "|- com : skip", 1, 0)
	wantSimplify(t, mustBook(t, drop, either), "x : exp |- com : if x { skip; skip } { if 1 { skip } { stop } }", "x : exp |- com : if x { skip } { skip }", 0, 1)
	wantSimplify(t, mustBook(t, drop, either), "x : exp |- com : if x { if 1 { skip } { stop } } { skip; skip }", "x : exp |- com : if x { skip } { skip }", 1, 0)
	// What one leaves lets another one be applied further out.
	wantSimplify(t, mustBook(t, "if x { p } { p } ~ new v = x { p }", drop), "|- com : if 2 { skip; stop } { stop }", "|- com : new v = 2 { stop }", 1, 0)
	wantSimplify(t, mustBook(t, "x + 0 ~ x", "0 + x ~ x", "x * 0 ~ do { if x { skip } { skip } } [ 0 ]", "1 * x ~ x"), "|- exp : 1 * (0 + (2 + 0)) + 0", "|- exp : 2", 0, 3, 1, 0)
	// Two rules at the same node, both of which fit.
	wantSimplify(t, mustBook(t, "if 1 { p } { p } ~ p", either), "|- com : if 1 { stop } { stop }", "|- com : stop", 0)
	wantSimplify(t, mustBook(t, either, "if 1 { p } { p } ~ p"), "|- com : if 1 { stop } { stop }", "|- com : stop", 0)
	wantSimplify(t, mustBook(t, "if 1 { p } { p } ~ p", either), "|- com : if 1 { stop } { skip }", "|- com : stop", 1)
	// The first rule does not fit, is caught, or makes nothing smaller.
	wantSimplify(t, mustBook(t, "new a = 0 { p } ~ p", "new a = 0 { a := 1 } ~ skip"), "|- com : new a = 0 { a := 1 }", "|- com : skip", 1)
	wantSimplify(t, mustBook(t, "p; skip ~ skip; p", "p; skip ~ p"), "|- com : stop; skip", "|- com : stop", 1)
	wantSimplify(t, mustBook(t, "if 1 { p } { q } ~ new a = 1 { p }", either), "|- com : new a = 0 { if 1 { a := 1 } { skip } }", "|- com : new a = 0 { a := 1 }", 1)
	// Rules are applied from left to right alone.
	wantSimplify(t, mustBook(t, "p ~ skip; p", "x ~ 0 + x"), "|- com : skip; new a = 0 + 1 { skip }", "|- com : skip; new a = 0 + 1 { skip }")
}

// P6.5: a rule that leads to an error is not applied, even if it makes the piece smaller.
func TestSimplifyAtTheLimit(t *testing.T) {
	b := mustBook(t, "skip; skip; skip; skip; p ~ block k { block j { p } }", "skip; p ~ p")
	const row = "skip; skip; skip; skip; stop"
	for _, levels := range []int{0, 1, api.MaxNest - 3, api.MaxNest - 2} {
		text := "|- com : " + nested(levels, row)
		if levels == api.MaxNest-2 {
			p, err := b.Apply(0, false, mustRead(t, text), levels)
			wantNoPiece(t, "Apply", p, err, api.ErrFull)
			wantSimplify(t, b, text, "|- com : "+nested(levels, "stop"), 1, 1, 1, 1)
			continue
		}
		wantSimplify(t, b, text, "|- com : "+nested(levels, "block k { block j { stop } }"), 0)
	}
}

// P6.5: as many rules as a piece lets be applied.
func TestLongSimplify(t *testing.T) {
	b := mustBook(t, "p; skip ~ p", "skip; p ~ p", "x + 0 ~ x")
	wantSimplify(t, b, "p : com |- com : p"+strings.Repeat("; skip", 299), "p : com |- com : p", make([]int, 299)...)
	// Behind the first one, the last of the skips stands further out.
	wantSimplify(t, b, "p : com |- com : "+strings.Repeat("skip; ", 299)+"p", "p : com |- com : p", append(make([]int, 298), 1)...)
	wantSimplify(t, b, "|- exp : 1"+strings.Repeat(" + 0", api.MaxNest-1), "|- exp : 1", slices.Repeat([]int{2}, api.MaxNest-1)...)
	left := strings.Repeat("if 1 { skip } { skip }; ", 119) + "p"
	b = mustBook(t, left+" ~ p; skip", left+"; skip ~ p", "if 1 { p } { p } ~ p")
	wantSimplify(t, b, "r : com |- com : "+strings.Repeat("if 1 { skip } { skip }; ", 119)+"r", "r : com |- com : r; skip", 0)
	wantSimplify(t, b, "r : com |- com : "+strings.Repeat("if 1 { skip } { skip }; ", 119)+"r; skip", "r : com |- com : r", 1)
}
