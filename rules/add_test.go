package rules_test

import (
	"math"
	"testing"

	"doppelganger/api"
	"doppelganger/lang"
	"doppelganger/rules"
)

// manyStates is a term of which there is no machine.
const manyStates = "new a = x { new b = x { new c = x { new d = x { new e = x { new f = x { new g = x { while a + b * c + d * e + f * g + x { a := b; b := c; c := d; d := e; e := f; f := g; g := x } } } } } } } }"

// fullBook returns a book with MaxRules rules.
func fullBook(t *testing.T) *rules.Book {
	t.Helper()
	b := rules.New()
	for i := range api.MaxRules {
		left, right := sides(t, []string{"x + 0 ~ x", "skip; p ~ p", "p; q ~ p; q"}[i%3])
		if err := b.Add(left, right); err != api.OK || b.Len() != i+1 {
			t.Fatalf("Add of rule %d: error %d, %d rules", i, err, b.Len())
		}
	}
	return b
}

// P6.2, P1 of DOC.md: what is no book and no piece, ahead of all other errors.
func TestNoBooksAndNoPieces(t *testing.T) {
	p := mustRead(t, "p : com |- com : p")
	apart := mustRead(t, "p : com |- com : p; p")
	other := mustRead(t, "f(com) : com |- exp : 1")
	nones := []*lang.Piece{nil, {}}
	for _, b := range []*rules.Book{nil, {}} {
		for _, left := range append(nones, p) {
			for _, right := range append(nones, p, apart, other) {
				if err := b.Add(left, right); err != api.ErrArg {
					t.Errorf("Add to no book: error %d", err)
				}
			}
		}
		if b.Len() != 0 {
			t.Errorf("no book has %d rules", b.Len())
		}
		for _, i := range []int{math.MinInt, -1, 0, 1, math.MaxInt} {
			if left, right, err := b.Rule(i); left != nil || right != nil || err != api.ErrArg {
				t.Errorf("Rule(%d) of no book: error %d", i, err)
			}
		}
	}
	for _, b := range []*rules.Book{rules.New(), fullBook(t)} {
		count := b.Len()
		for _, none := range nones {
			for _, some := range append(nones, p, other) {
				if err := b.Add(none, some); err != api.ErrArg {
					t.Errorf("Add of no piece: error %d", err)
				}
				if err := b.Add(some, none); err != api.ErrArg {
					t.Errorf("Add of no piece: error %d", err)
				}
			}
		}
		if b.Len() != count {
			t.Errorf("%d rules; want %d", b.Len(), count)
		}
	}
}

// P6.2: pieces that are not comparable, or declare a name with arguments; what is ahead of ErrName, and of the errors of Same.
func TestTypesOfSides(t *testing.T) {
	for _, text := range []string{
		"p : com |- com : p ~ q : com |- com : q",
		"p : com |- com : skip ~ |- com : skip",
		"p : com |- com : p ~ p : com, q : com |- com : p",
		"p : com |- com : skip ~ p : exp |- com : skip",
		"p : com |- com : stop ~ p : com |- exp : stop",
		"p : com |- com : skip ~ p(com) : com |- com : skip",
		"f(com) : com |- com : skip ~ f(exp) : com |- com : skip",
		"f(com) : com |- com : f({ skip }) ~ f(com) : com |- com : f({ skip })",
		"f(val) : com |- com : skip ~ f(val) : com |- com : skip",
		"f(exp, val, com) : exp, p : com |- com : p ~ f(exp, val, com) : exp, p : com |- com : p",
		"a : com, z(exp) : exp |- exp : 1 ~ a : com, z(exp) : exp |- exp : 1",
		// Ahead of ErrName and ErrApart.
		"p : com |- com : skip ~ q : com |- com : q",
		"f(com) : com, p : com |- com : skip ~ f(com) : com, p : com |- com : p",
		"f(com) : com, p : com |- com : skip ~ f(com) : com, p : com |- com : f({ p })",
		"f(com) : com, p : com |- com : f({ p }) ~ f(com) : com, p : com |- com : p",
		"p : com |- com : skip ~ p : com |- exp : do { p } [ 1 ]",
		"p : com |- com : skip ~ p : exp |- com : if p { skip } { skip }",
		// Ahead of ErrFull of Same.
		"x : exp |- com : " + manyStates + " ~ x : exp, y : exp |- com : skip",
		"f(com) : com, x : exp |- com : " + manyStates + " ~ f(com) : com, x : exp |- com : skip",
	} {
		wantAdd(t, text, api.ErrType)
	}
	wantAdd(t, "q : com, p : exp |- com : skip; q ~ p : exp, q : com |- com : q", api.OK)
}

// P6.1, P6.2: the right side calls an unknown that the left one does not call; what hides an unknown.
func TestUnknownsOfSides(t *testing.T) {
	for text, want := range map[string]api.Errno{
		"skip ~ p":                             api.ErrName,
		"p ~ q":                                api.ErrName,
		"p ~ p; q":                             api.ErrName,
		"p ~ if x { p } { p }":                 api.ErrName,
		"0 ~ x":                                api.ErrName,
		"skip ~ if 0 { p } { skip }":           api.ErrName,
		"stop ~ stop; p":                       api.ErrName,
		"stop ~ while 1 { new a = 0 { p } }":   api.ErrName,
		"skip ~ proc f() : com { p } { skip }": api.ErrName,
		"skip ~ proc f(a : com) : com { skip } { f({ p }) }": api.ErrName,
		// The left side alone.
		"if 0 { p } { skip } ~ skip":     api.OK,
		"stop; p ~ stop":                 api.OK,
		"if 1 { p } { q } ~ p":           api.OK,
		"proc f() : com { q } { p } ~ p": api.OK,
		"p ~ skip":                       api.ErrApart,
		"if x { skip } { skip } ~ skip":  api.ErrApart,
		// Neither: an unknown that no side calls is one, too.
		"skip; skip ~ skip": api.OK,
		"1 + 1 ~ 2":         api.OK,
		// A procedure of this name, in its block alone.
		"skip ~ proc p() : com { skip } { p }":                      api.OK,
		"skip; skip ~ proc p() : com { skip } { p; p }":             api.OK,
		"stop ~ proc p() : com { p } { stop }":                      api.ErrName,
		"stop ~ proc p() : com { stop } { p; q }":                   api.ErrName,
		"proc p() : com { p } { p } ~ p":                            api.OK,
		"proc p() : com { skip } { p } ~ if 0 { p } { skip }":       api.ErrName,
		"skip ~ proc p() : com { skip } { p }; if 0 { p } { skip }": api.ErrName,
		// A parameter of this name, in the body alone.
		"skip ~ proc f(p : com) : com { p } { f({ skip }) }":                    api.OK,
		"skip ~ proc f(a : com, p : com) : com { p } { f({ stop }, { skip }) }": api.OK,
		"skip ~ proc f(p : com) : com { skip } { f({ p }) }":                    api.ErrName,
		"proc f(p : com) : com { p } { f({ skip }) } ~ if 0 { p } { skip }":     api.ErrName,
		// A variable of this name: what is read and set is no call.
		"1 ~ new x = 1 [ x ]":                      api.OK,
		"skip ~ new x = 1 { x := x + 1 }":          api.OK,
		"1 ~ new x = x [ 1 ]":                      api.ErrName,
		"new x = 1 [ x ] ~ if 1 [ 1 ] [ x ]":       api.ErrName,
		"1 ~ proc f(x : val) : exp [ x ] [ f(1) ]": api.OK,
		"1 ~ proc f(x : val) : exp [ 1 ] [ f(x) ]": api.ErrName,
		"skip ~ new p = 0 { skip }":                api.OK,
		// A label of this name.
		"skip ~ block p { exit p }":  api.OK,
		"stop ~ stop; block q { p }": api.ErrName,
	} {
		wantAdd(t, text, want)
	}
}

// P6.2: pieces that are apart, and what Same returns for pieces that are too great.
func TestSidesThatAreNotShown(t *testing.T) {
	for _, text := range []string{"p; p ~ p", "x + x ~ x * 2", "x + y ~ y + x", "p; stop ~ stop", "skip ~ stop", "fault ~ stop", "1 ~ 2", "if x { p } { q } ~ if x { q } { p }"} {
		wantAdd(t, text, api.ErrApart)
	}
	wantAdd(t, manyStates+" ~ skip", api.ErrFull)
	wantAdd(t, manyStates+" ~ "+manyStates, api.ErrFull)
	wantAdd(t, "while x { skip } ~ "+manyStates, api.ErrFull)
	wantAdd(t, manyStates+" ~ if y { skip } { skip }", api.ErrName)
	wantAdd(t, "p ~ "+manyStates, api.ErrName)
}

// P6.2: a book with MaxRules rules; ErrFull behind ErrName, and ahead of what Same returns.
func TestFullBook(t *testing.T) {
	b := fullBook(t)
	for text, want := range map[string]api.Errno{
		"skip; p ~ p":                        api.ErrFull,
		"p; q ~ q; p":                        api.ErrFull,
		"skip ~ stop":                        api.ErrFull,
		manyStates + " ~ skip":               api.ErrFull,
		"skip ~ p":                           api.ErrName,
		"skip ~ if x { skip } { skip }":      api.ErrName,
		"p : com |- com : p ~ |- com : skip": api.ErrType,
		"f(com) : com |- com : skip ~ f(com) : com |- com : skip": api.ErrType,
	} {
		left, right := sides(t, text)
		if err := b.Add(left, right); err != want || b.Len() != api.MaxRules {
			t.Errorf("Add of %s to a full book: error %d, %d rules; want error %d", text, err, b.Len(), want)
		}
	}
	other := mustRead(t, unknowns+" |- exp : do { p } [ 1 ]")
	if err := b.Add(mustRead(t, unknowns+" |- com : skip"), other); err != api.ErrType {
		t.Errorf("Add of other types to a full book: error %d", err)
	}
	if err := b.Add(nil, mustRead(t, "|- com : skip")); err != api.ErrArg {
		t.Errorf("Add of nil to a full book: error %d", err)
	}
	p, err := b.Apply(api.MaxRules-1, false, mustRead(t, "|- com : skip; stop"), 0)
	wantPiece(t, "the last rule", p, err, "|- com : stop")
}

// wantRules checks the rules of a book.
func wantRules(t *testing.T, b *rules.Book, texts ...string) {
	t.Helper()
	if b.Len() != len(texts) {
		t.Fatalf("%d rules; want %d", b.Len(), len(texts))
	}
	for i, text := range texts {
		left, right, err := b.Rule(i)
		first, second := sides(t, text)
		wantPiece(t, "the left side", left, err, first.Text())
		wantPiece(t, "the right side", right, err, second.Text())
	}
	for _, i := range []int{math.MinInt, -2, -1, len(texts), len(texts) + 1, math.MaxInt} {
		if left, right, err := b.Rule(i); left != nil || right != nil || err != api.ErrNone {
			t.Errorf("Rule(%d) of %d: error %d; want ErrNone", i, len(texts), err)
		}
	}
}

// P6.2: Len and Rule; what is not added leaves the book as it is; books have nothing in common.
func TestRulesOfBook(t *testing.T) {
	b, other := rules.New(), rules.New()
	wantRules(t, b)
	var texts []string
	for _, text := range []string{"skip; p ~ p", "x + 0 ~ x", "|- exp : 1 + 1 ~ |- exp : 2", "skip; p ~ p"} {
		left, right := sides(t, text)
		if err := b.Add(left, right); err != api.OK {
			t.Fatalf("Add of %s: error %d", text, err)
		}
		texts = append(texts, text)
		wantRules(t, b, texts...)
		for _, wrong := range []string{"p; q ~ q; p", "skip ~ p", "p : com |- com : p ~ |- com : skip"} {
			if err := b.Add(sides(t, wrong)); err == api.OK {
				t.Errorf("Add of %s: OK", wrong)
			}
			wantRules(t, b, texts...)
		}
	}
	wantRules(t, other)
	if err := other.Add(sides(t, "0 + x ~ x")); err != api.OK {
		t.Errorf("Add to another book: error %d", err)
	}
	wantRules(t, other, "0 + x ~ x")
	wantRules(t, b, texts...)
}

// P3 of DOC.md: neither writing on what Add was given nor on what Rule returned changes the book.
func TestRulesAreKept(t *testing.T) {
	b := rules.New()
	left, right := sides(t, "skip; p ~ p")
	if err := b.Add(left, right); err != api.OK {
		t.Fatalf("Add: error %d", err)
	}
	wantRules(t, b, left.Text()+" ~ "+right.Text())
	*left, *right = lang.Piece{}, *mustRead(t, "|- com : fault")
	wantRules(t, b, "skip; p ~ p")
	left, right, _ = b.Rule(0)
	*left, *right = *mustRead(t, "|- exp : 1"), lang.Piece{}
	wantRules(t, b, "skip; p ~ p")
	p, err := b.Apply(0, false, mustRead(t, "|- com : skip; stop"), 0)
	wantPiece(t, "Apply", p, err, "|- com : stop")
	p, _, err = b.Simplify(mustRead(t, "|- com : skip; stop"))
	wantPiece(t, "Simplify", p, err, "|- com : stop")
	first, _, _ := b.Rule(0)
	nodes, decls := first.Nodes(), first.Decls()
	nodes[0].Kind, nodes[0].Kids[0], decls[0].Name = api.Skip, 7, "zz"
	wantRules(t, b, "skip; p ~ p")
}

// P4 of DOC.md: a copy of a book is another one.
func TestCopiedBook(t *testing.T) {
	b := mustBook(t, "skip; p ~ p", "x + 0 ~ x", "0 + x ~ x")
	copied := *b
	if err := copied.Add(sides(t, "x * 1 ~ x")); err != api.OK {
		t.Fatalf("Add: error %d", err)
	}
	if err := b.Add(sides(t, "1 * x ~ x")); err != api.OK {
		t.Fatalf("Add: error %d", err)
	}
	wantRules(t, &copied, "skip; p ~ p", "x + 0 ~ x", "0 + x ~ x", "x * 1 ~ x")
	wantRules(t, b, "skip; p ~ p", "x + 0 ~ x", "0 + x ~ x", "1 * x ~ x")
}
