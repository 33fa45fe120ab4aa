package parts_test

import (
	"reflect"
	"testing"

	"doppelganger/api"
)

// Modules of the chapter's examples.
const (
	up     = "new n = 0; inc: com { n := n + 1 }; get: exp [ n ]"
	down   = "new m = 0; dec: com { m := m - 1 }; get: exp [ 0 - m ]"
	square = "new n = 0; inc: com { n := n + 1 }; get: exp [ n * n ]"
)

// The chapter's table of examples.
func TestExamples(t *testing.T) {
	wantSame(t, up, down, true)
	wantSame(t, up, square, false)
	wantRelation(t, up, down, "0 0", "1 3", "2 2", "3 1")
	wantPiece(t, up, "client(com, exp) : com |- com : new n = 0 { client({ n := n + 1 }, n) }")
	wantRead(t, "a: com { b }", api.ErrName)
	wantRead(t, "new x = 0; a: com { x }", api.ErrType)
	wantRead(t, "new x = 0;", api.ErrForm)
	wantRead(t, "new client = 0; a: com { skip }", api.ErrForm)
	wantRead(t, "a: exp [ 1 ]; a: com { skip }", api.ErrForm)
	want := []api.Decl{{Name: "inc"}, {Name: "get", Result: api.Exp}}
	if got := mustRead(t, up).Operations(); !reflect.DeepEqual(got, want) {
		t.Errorf("Operations of %s: %v; want %v", up, got, want)
	}
	const once = "new n = 0; go: com { if n { fault } { n := 1 } }"
	wantRelation(t, once, once, "0 0", "1 1")
}

// The document's example 7, and example 4 of chapter 9.
func TestExamplesOfTheDocument(t *testing.T) {
	const (
		rising  = "new x = 0; inc : com { x := x + 1 }; get : exp [ x ]"
		falling = "new x = 0; inc : com { x := x - 1 }; get : exp [ 0 - x ]"
	)
	wantSame(t, rising, falling, true)
	wantRelation(t, rising, falling, "0 0", "1 3", "2 2", "3 1")
}
