package rules_test

import (
	"math"
	"strings"
	"testing"

	"doppelganger/api"
	"doppelganger/lang"
	"doppelganger/rules"
)

// nested returns a command within some blocks.
func nested(count int, text string) string {
	return strings.Repeat("block k { ", count) + text + strings.Repeat(" }", count)
}

// P6.4, P1 of DOC.md: the errors of Apply, and their order.
func TestErrorsOfApply(t *testing.T) {
	p := mustRead(t, "p : com |- com : skip; p") // three nodes
	b := mustBook(t, "skip; p ~ p", "if 1 { p } { q } ~ p")
	far := []int{math.MinInt, -1, 3, 4, math.MaxInt}
	for _, back := range []bool{false, true} {
		for _, i := range append(far, 0, 1) {
			for _, node := range append(far, 0) {
				for _, none := range []*rules.Book{nil, {}} {
					got, err := none.Apply(i, back, p, node)
					wantNoPiece(t, "Apply of no book", got, err, api.ErrArg)
				}
				for _, none := range []*lang.Piece{nil, {}} {
					got, err := b.Apply(i, back, none, node)
					wantNoPiece(t, "Apply to no piece", got, err, api.ErrArg)
				}
				want := api.ErrArg
				switch {
				case i != 0 && i != 1:
					want = api.ErrNone
				case node == 0:
					continue
				}
				got, err := b.Apply(i, back, p, node)
				wantNoPiece(t, "Apply", got, err, want)
			}
		}
		got, err := b.Apply(2, back, p, 0)
		wantNoPiece(t, "Apply of a rule behind the last one", got, err, api.ErrNone)
		got, err = rules.New().Apply(0, back, p, 0)
		wantNoPiece(t, "Apply of a book without rules", got, err, api.ErrNone)
	}
	got, err := b.Apply(0, false, p, 0)
	wantPiece(t, "Apply", got, err, "p : com |- com : p")
	got, err = b.Apply(1, false, p, 0)
	wantNoPiece(t, "Apply", got, err, api.ErrApart)
}

// P6.4: the other side calls an unknown that this one does not call; then ErrApart, whatever the term is.
func TestUnknownOfOtherSideAlone(t *testing.T) {
	wantFits(t, []fit{
		{"if 1 { p } { q } ~ p", false, "p : com |- com : if 1 { p } { stop }", 0, "p"},
		{"if 1 { p } { q } ~ p", true, "p : com |- com : p", 0, ""},
		{"if 1 { p } { q } ~ p", true, "p : com |- com : if 1 { p } { stop }", 0, ""},
		{"stop; p ~ stop", false, "p : com |- com : stop; p", 0, "stop"},
		{"stop; p ~ stop", true, "|- com : stop", 0, ""},
		{"stop; p ~ while 1 { proc p() : com { skip } { p } }", false, "|- com : stop; skip", 0, "while 1 { proc p() : com { skip } { p } }"},
		{"stop; p ~ while 1 { proc p() : com { skip } { p } }", true, "p : com |- com : while 1 { proc p() : com { skip } { p } }", 0, ""},
		{"proc p() : com { p } { skip } ~ skip", true, "p : com |- com : skip", 0, ""},
		{"proc p() : com { skip } { p } ~ skip", true, "|- com : skip", 0, "proc p() : com { skip } { p }"},
	})
}

// P6.4: each node of a piece.
func TestEachNode(t *testing.T) {
	const text = "f(com, exp) : exp |- com : new a = f({ a := a }, 1) { proc g(b : com) : exp [ do { b } [ 2 ] ] { while g({ skip }) == 0 { if a { stop } { fault } } } }"
	p := mustRead(t, strings.Replace(text, "a := a", "skip", 1))
	wraps := map[bool]string{true: "do { skip } [ y ] ~ y", false: "block z { q } ~ q"}
	for at, n := range p.Nodes() {
		for isExp, rule := range wraps {
			got, err := mustBook(t, rule).Apply(0, true, p, at)
			if isExp != (n.Type == api.Exp) {
				wantNoPiece(t, "Apply to another type", got, err, api.ErrApart)
				continue
			}
			if err != api.OK {
				t.Errorf("Apply of %s back at node %d of %s: error %d", rule, at, p.Text(), err)
				continue
			}
			again, err := mustBook(t, rule).Apply(0, false, got, at)
			wantPiece(t, "Apply of "+rule+" to "+got.Text(), again, err, p.Text())
			count := map[bool]int{true: 2, false: 1}[isExp]
			if len(got.Nodes()) != len(p.Nodes())+count || got.Nodes()[at].Kind != map[bool]int{true: api.Do, false: api.Block}[isExp] {
				t.Errorf("Apply of %s back at node %d of %s: %s", rule, at, p.Text(), got.Text())
			}
		}
	}
	wantFits(t, []fit{
		{"x + y ~ x + 0 + y", false, "|- exp : 1 + 2 + 3", 0, "1 + 2 + 0 + 3"},
		{"x + y ~ x + 0 + y", false, "|- exp : 1 + 2 + 3", 1, "1 + 0 + 2 + 3"},
		{"x + y ~ x + 0 + y", false, "|- exp : 1 + (2 + 3)", 0, "1 + 0 + (2 + 3)"},
		{"x + y ~ x + 0 + y", false, "|- exp : 1 + (2 + 3)", 2, "1 + (2 + 0 + 3)"},
		{"x * 1 ~ x", true, "f(exp, com, val) : exp |- exp : f(1, { skip }, 3)", 0, "f(1, { skip }, 3) * 1"},
		{"x * 1 ~ x", true, "f(exp, com, val) : exp |- exp : f(1, { skip }, 3)", 1, "f(1 * 1, { skip }, 3)"},
		{"x * 1 ~ x", true, "f(exp, com, val) : exp |- exp : f(1, { skip }, 3)", 3, "f(1, { skip }, 3 * 1)"},
	})
}

// P6.4: rows are put together anew in the result.
func TestRowsOfResult(t *testing.T) {
	const row = "p : com, q : com, r : com |- com : p; q; r"
	wantFits(t, []fit{
		{"p ~ skip; p", false, row, 0, "skip; p; q; r"},
		{"p ~ skip; p", false, row, 1, "skip; p; q; r"},
		{"p ~ skip; p", false, row, 2, "skip; p; q; r"},
		{"p ~ skip; p", false, row, 3, "p; skip; q; r"},
		{"p ~ skip; p", false, row, 4, "p; q; skip; r"},
		{"p ~ p; skip", false, row, 1, "p; q; skip; r"},
		{"block k { p } ~ p", false, "p : com, q : com |- com : p; block k { q; p; q }", 2, "p; q; p; q"},
		{"block k { p } ~ p", false, "p : com, q : com |- com : p; block k { q; p; q }; p", 3, "p; q; p; q; p"},
		{"block k { p } ~ p", false, "p : com, q : com |- com : block k { q; p; q }; p", 1, "q; p; q; p"},
		{"block k { p } ~ skip; p; skip", false, "p : com |- com : p; block k { p; p }; p", 3, "p; skip; p; p; skip; p"},
		{"if 1 { p } { q } ~ p", false, "p : com, q : com |- com : q; if 1 { p; q } { skip }; p", 3, "q; p; q; p"},
	})
}

// P6.4: a piece that is too great; other errors are ahead of it.
func TestTooGreatResults(t *testing.T) {
	row := "p : com |- com : p" + strings.Repeat("; p", 298) // 597 nodes
	b := mustBook(t, "skip; p ~ p", "block k { p } ~ p", "if x { p } { p } ~ new v = x { p }", "p ~ if 1 { p } { p; p }")
	p := mustRead(t, row)
	got, err := b.Apply(0, true, p, 596)
	if err != api.OK || len(got.Nodes()) != 599 {
		t.Fatalf("597 nodes and two: error %d, %d nodes", err, len(got.Nodes()))
	}
	full, err := b.Apply(1, true, got, 0)
	if err != api.OK || len(full.Nodes()) != api.MaxNodes {
		t.Errorf("599 nodes and one: error %d, %d nodes", err, len(full.Nodes()))
	}
	for _, node := range []int{0, 1, 300, 599} {
		again, err := b.Apply(1, true, full, node)
		wantNoPiece(t, "600 nodes and one", again, err, api.ErrFull)
	}
	again, err := b.Apply(0, true, got, 0)
	wantNoPiece(t, "599 nodes and two", again, err, api.ErrFull)
	again, err = b.Apply(3, false, got, 0)
	wantNoPiece(t, "many times 599 nodes", again, err, api.ErrFull)
	again, err = b.Apply(0, true, full, 600)
	wantNoPiece(t, "no node", again, err, api.ErrArg)
	again, err = b.Apply(2, true, full, 0)
	wantNoPiece(t, "a row that is no new", again, err, api.ErrApart)

	deep := mustRead(t, "|- com : "+nested(api.MaxNest-1, "skip"))
	last := api.MaxNest - 1
	for _, node := range []int{0, 30, last} {
		again, err = b.Apply(1, true, deep, node)
		wantNoPiece(t, "61 levels", again, err, api.ErrFull)
		again, err = b.Apply(0, true, deep, node)
		wantNoPiece(t, "61 levels", again, err, api.ErrFull)
	}
	again, err = b.Apply(1, false, deep, 0)
	wantPiece(t, "a block less", again, err, "|- com : "+nested(api.MaxNest-2, "skip"))
	again, err = b.Apply(1, true, again, last-1)
	wantPiece(t, "a block more", again, err, deep.Text())
	// A row within a row takes no further level.
	rows := mustRead(t, "|- com : "+nested(api.MaxNest-2, "skip; skip"))
	again, err = b.Apply(0, true, rows, last)
	wantPiece(t, "a step more", again, err, "|- com : "+nested(api.MaxNest-2, "skip; skip; skip"))
}

// P3 of DOC.md: the piece is not changed, and the result has no memory in common with it.
func TestResultsAreNew(t *testing.T) {
	b := mustBook(t, "x + x ~ x + x", "x * 1 ~ x")
	const text = "|- exp : new a = 1 [ a + a ]"
	p := mustRead(t, text)
	same, err := b.Apply(0, false, p, 2)
	wantPiece(t, "Apply", same, err, text)
	more, err := b.Apply(1, true, p, 0)
	wantPiece(t, "Apply", more, err, "|- exp : new a = 1 [ a + a ] * 1")
	simple, numbers, err := b.Simplify(p)
	wantPiece(t, "Simplify", simple, err, text)
	if len(numbers) != 0 || p.Text() != text {
		t.Errorf("Simplify: by the rules %v, of %s", numbers, p.Text())
	}
	*p = lang.Piece{}
	for _, q := range []*lang.Piece{same, simple} {
		wantPiece(t, "what was written on", q, api.OK, text)
	}
	*same = lang.Piece{}
	wantPiece(t, "another result", simple, api.OK, text)
	wantPiece(t, "another result", more, api.OK, "|- exp : new a = 1 [ a + a ] * 1")

	p = mustRead(t, "|- exp : 2 * 1 * 1")
	_, numbers, _ = b.Simplify(p)
	numbers[0], numbers[1] = 7, 8
	wantSimplify(t, b, p.Text(), "|- exp : 2", 1, 1)
}
