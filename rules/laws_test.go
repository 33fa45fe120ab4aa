package rules_test

import (
	"testing"

	"doppelganger/api"
	"doppelganger/lang"
	"doppelganger/play"
	"doppelganger/tell"
)

// shown are rules of many forms.
var shown = []string{
	"skip; p ~ p", "p; skip ~ p", "p ~ p", "p; q ~ p; skip; q",
	"stop; p ~ stop", "fault; p ~ fault", "while 1 { skip } ~ stop", "while 0 { p } ~ skip",
	"new a = 0 { p } ~ p", "new b = x { p } ~ if x { p } { p }", "new a = x { if a { p } { q } } ~ if x { p } { q }",
	"block k { p } ~ p", "block k { p; exit k; q } ~ p", "block k { if x { exit k } { skip }; p } ~ if x { skip } { p }",
	"if 1 { p } { q } ~ p", "if x { p } { p } ~ if x { skip } { skip }; p", "if x { p } { q } ~ if x == 0 { q } { p }",
	"proc f() : com { p } { f } ~ p", "proc f(c : com) : com { c; c } { f({ p }) } ~ p; p", "proc f() : com { skip } { p; f } ~ p",
	"proc f(a : val) : com { if a { p } { q } } { f(x) } ~ if x { p } { q }", "proc p() : com { p } { p; p } ~ p; p",
	"while x { p } ~ if x { p; while x { p } } { skip }", "block k { while 1 { if x { p } { exit k } } } ~ while x { p }",
	"new a = x { new b = y { if a { p } { skip } } } ~ new b = x { new a = y { if b { p } { skip } } }",
	"x + 0 ~ x", "1 * x ~ x", "x + 1 ~ 1 + x", "new a = x [ a + a ] ~ x * 2", "do { skip } [ x ] ~ x",
	"if 1 [ x ] [ y ] ~ x", "if x [ 1 ] [ 0 ] ~ 0 < x", "do { p } [ x ] ~ new a = do { p } [ x ] [ a ]",
	"proc f() : exp [ x ] [ f ] ~ x", "proc g(a : val) : exp [ a + y ] [ g(x) ] ~ x + y", "proc f(c : exp) : exp [ c + c ] [ f(x) ] ~ x + x",
	"do { p; q } [ x ] ~ do { p } [ do { q } [ x ] ]", "|- exp : 1 + 1 ~ |- exp : 2",
}

// comesTo is what comes of a program.
type comesTo struct {
	result api.Result
	value  int
}

// wantSame checks that two pieces are the same, unless this is not told; it reports whether it is.
func wantSame(t *testing.T, what string, p, q *lang.Piece) bool {
	t.Helper()
	same, err := tell.Same(p, q)
	if err != api.OK && err != api.ErrFull || err == api.OK && !same {
		t.Fatalf("%s: %s is not %s: error %d", what, q.Text(), p.Text(), err)
	}
	if len(p.Decls()) > 0 {
		return err == api.OK
	}
	var before, after comesTo
	var first, second api.Errno
	before.result, before.value, _, first = play.Run(p)
	after.result, after.value, _, second = play.Run(q)
	if first == api.OK && second == api.OK && before != after {
		t.Fatalf("%s: %s comes to %v, %s to %v", what, p.Text(), before, q.Text(), after)
	}
	return err == api.OK
}

// P6.6, T7: at each node of random pieces, by each rule, either way, Apply leaves a piece the same.
func TestApplyLeavesSame(t *testing.T) {
	a := newAuthor(3)
	b := mustBook(t, shown...)
	applied := map[bool]int{}
	byRule := map[int]int{}
	for i := range 150 {
		p := a.mixed(t, b, settings[i%len(settings)])
		for number := range b.Len() {
			for _, back := range []bool{false, true} {
				for node := range p.Nodes() {
					q, err := b.Apply(number, back, p, node)
					if err == api.OK && wantSame(t, "Apply of "+shown[number]+direction(back), p, q) {
						applied[back]++
						byRule[number]++
					}
				}
			}
		}
	}
	if applied[false] < 1000 || applied[true] < 2000 || len(byRule) < len(shown)-2 {
		t.Errorf("too few pieces to tell: %v, by the rules %v", applied, byRule)
	}
}

// P6.3, P6.4: a side is a term with its own unknowns in their places.
func TestRulesOnTheirSides(t *testing.T) {
	b := mustBook(t, shown...)
	for number, rule := range shown {
		left, right := sides(t, rule)
		got, err := b.Apply(number, false, left, 0)
		wantPiece(t, "Apply of "+rule+" to its left side", got, err, right.Text())
		got, err = b.Apply(number, true, right, 0)
		if unknown := b.Add(right, left); unknown == api.ErrName {
			wantNoPiece(t, "Apply of "+rule+" back", got, err, api.ErrApart)
		} else {
			wantPiece(t, "Apply of "+rule+" to its right side", got, err, left.Text())
		}
	}
}

// P6.6, T7: Simplify leaves random pieces the same.
func TestSimplifyLeavesSame(t *testing.T) {
	a := newAuthor(4)
	b := mustBook(t, shown...)
	changed := 0
	for i := range 400 {
		p := a.mixed(t, b, settings[i%len(settings)])
		q, numbers, err := b.Simplify(p)
		if err != api.OK || len(q.Nodes())+len(numbers) > len(p.Nodes()) {
			t.Fatalf("Simplify of %s: %s, error %d, by %d rules", p.Text(), q.Text(), err, len(numbers))
		}
		if wantSame(t, "Simplify", p, q) && len(numbers) > 0 {
			changed++
		}
	}
	if changed < 150 {
		t.Errorf("too few pieces to tell: %d", changed)
	}
}

// P6.6: the names that stand free in a term are what tells: a rule that let them be caught would not leave a piece the same.
func TestCaughtNamesWouldTell(t *testing.T) {
	for _, texts := range [][2]string{
		{"|- com : new a = 0 { if 1 { a := 1 } { skip }; if a { fault } { skip } }", "|- com : new a = 0 { new a = 1 { if a { a := 1 } { skip } }; if a { fault } { skip } }"},
		{"|- com : block k { block k { exit k }; fault }", "|- com : block k { exit k; fault }"},
		{"f : com |- com : skip; f", "f : com |- com : proc f() : com { skip } { f; f }"},
	} {
		if same, err := tell.Same(mustRead(t, texts[0]), mustRead(t, texts[1])); same || err != api.OK {
			t.Errorf("Same(%s, %s): %t, error %d", texts[0], texts[1], same, err)
		}
	}
	wantApply(t, "if x { p } { q } ~ new a = x { if a { p } { q } }", false, "|- com : new a = 0 { if 1 { a := 1 } { skip }; if a { fault } { skip } }", 3, "")
	wantApply(t, "block k { p } ~ p", false, "|- com : block k { block k { exit k }; fault }", 2, "")
	wantApply(t, "skip; p ~ proc f() : com { skip } { f; p }", false, "f : com |- com : skip; f", 0, "")
}

// P4 of DOC.md: each call comes to the same, whatever was called before.
func TestCallsAreAlike(t *testing.T) {
	a := newAuthor(5)
	b := mustBook(t, shown...)
	for i := range 20 {
		p := a.mixed(t, b, settings[i%len(settings)])
		text := p.Text()
		want, numbers, _ := b.Simplify(p)
		for range 3 {
			for number := range b.Len() {
				b.Apply(number, i%2 == 0, p, i%len(p.Nodes()))
			}
			got, again, err := b.Simplify(p)
			wantPiece(t, "Simplify of "+text, got, err, want.Text())
			if len(again) != len(numbers) || p.Text() != text || b.Len() != len(shown) {
				t.Errorf("Simplify of %s: by the rules %v; before it was %v", text, again, numbers)
			}
		}
	}
}
