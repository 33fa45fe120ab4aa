package parts_test

import (
	"testing"

	"doppelganger/api"
	"doppelganger/parts"
	"doppelganger/tell"
)

// tooMuch is a body for which tell.Same is ErrFull: its unfolded term is too great, or it makes too many beats.
const (
	tooGreat = "proc a() : com { skip; skip } { proc b() : com { a; a; a; a; a; a; a; a; a; a } { proc c() : com { b; b; b; b; b; b; b; b; b; b } { proc d() : com { c; c; c; c; c; c; c; c; c; c } { d; d; d; d; d; d; d; d; d; d } } } }"
	tooLong  = "new a = 3 { while a { new b = 3 { while b { new c = 3 { while c { new d = 3 { while d { new e = 3 { while e { new f = 3 { while f { new g = 3 { while g { g := g - 1 } }; f := f - 1 } }; e := e - 1 } }; d := d - 1 } }; c := c - 1 } }; b := b - 1 } }; a := a - 1 } }"
)

// wantSameError checks that two modules cannot be compared, in either order.
func wantSameError(t *testing.T, a, b *parts.Module, want api.Errno) {
	t.Helper()
	for range 2 {
		if is, err := parts.Same(a, b); is || err != want {
			t.Errorf("Same of %.200s, and of %.200s: %t, error %d; want error %d", a.Text(), b.Text(), is, err, want)
		}
		if pairs, err := parts.Relation(a, b); len(pairs) != 0 || err != want {
			t.Errorf("Relation of %.200s, and of %.200s: %v, error %d; want error %d", a.Text(), b.Text(), pairs, err, want)
		}
		a, b = b, a
	}
}

// P7.4, P7.5, P1 of DOC.md: no module, ahead of all other errors.
func TestNoModules(t *testing.T) {
	for _, none := range []*parts.Module{nil, {}} {
		for _, other := range []*parts.Module{nil, {}, mustRead(t, up), mustRead(t, "a: com { skip }"), mustRead(t, "a: com { "+tooGreat+" }")} {
			wantSameError(t, none, other, api.ErrArg)
		}
	}
}

// P7.4, P7.5: operations of other types, in order, ahead of ErrFull.
func TestTypesOfOperations(t *testing.T) {
	texts := []string{
		"a: com { skip }", "a: exp [ 1 ]", "a: com { skip }; b: com { skip }", "a: com { skip }; b: exp [ 1 ]", "b: exp [ 1 ]; a: com { skip }", "a: exp [ 1 ]; b: exp [ 1 ]",
		three, "a: com { skip }; c: com { skip }; b: exp [ 1 ]", "b: exp [ 1 ]; a: com { skip }; c: com { skip }", "a: com { " + tooGreat + " }; b: com { skip }; c: com { skip }",
	}
	for i, text := range texts {
		for _, other := range texts[:i] {
			wantSameError(t, mustRead(t, four+text), mustRead(t, four+other), api.ErrType)
		}
	}
	wantSameError(t, mustRead(t, "a: com { "+tooLong+" }"), mustRead(t, "a: exp [ 1 ]"), api.ErrType)
	wantSameError(t, mustRead(t, up), mustRead(t, "n: com { skip }"), api.ErrType)
}

// P7.4, P7.5: what tell.Same returns, ahead of ErrApart.
func TestErrorsOfTell(t *testing.T) {
	for _, body := range []string{tooGreat, tooLong} {
		long := mustRead(t, "a: com { "+body+" }")
		wantSameError(t, long, long, api.ErrFull)
		wantSameError(t, long, mustRead(t, "a: com { skip }"), api.ErrFull)
		wantSameError(t, long, mustRead(t, "new x = 0; a: com { fault }"), api.ErrFull)
		wantSameError(t, mustRead(t, "a: com { skip }; b: exp [ do { "+body+" } [ 1 ] ]"), mustRead(t, "new x = 0; a: com { x := 1 }; b: exp [ x ]"), api.ErrFull)
		// Where it is never come to, only the number of nodes matters.
		never := mustRead(t, "a: com { if 0 { "+body+" } { skip } }")
		if is, err := parts.Same(never, mustRead(t, "a: com { skip }")); is != (body == tooLong) || (err == api.OK) != (body == tooLong) {
			t.Errorf("Same of %.200s: %t, error %d", never.Text(), is, err)
		}
	}
}

// P7.4: modules with unlike variables, other names of operations, other ways.
func TestModulesThatAreSame(t *testing.T) {
	for _, texts := range [][]string{
		{"a: com { skip }", "b: com { skip; skip }", "new x = 0; client: com { x := x + 1 }", four + "c: com { x := y; z := w }"},
		{"a: com { stop }", "a: com { while 1 { skip } }", "new x = 0; a: com { while x == 0 { skip } }"},
		{"a: com { fault }", "new x = 0; a: com { if x { skip } { fault } }", "a: com { fault; stop }"},
		{"a: exp [ 1 ]", "new x = 1; z: exp [ x ]", "new x = 3; new y = 2; a: exp [ x - y ]", "new x = 0; a: exp [ do { x := x + 1 } [ 1 ] ]"},
		{up, down, "new x = 1; new y = 3; a: com { x := x + 1; y := y - 1 }; b: exp [ if x == 0 - y [ x - 1 ] [ fault ] ]", "new x = 2; a: com { x := x + 1 }; b: exp [ x - 2 ]", "new a = 0; new b = 0; inc: com { if a { a := 0; b := 1 - b } { a := 1 } }; get: exp [ a + b + b ]"},
		{"new x = 0; a: exp [ do { x := x + 1 } [ x ] ]", "new x = 1; a: exp [ new y = x [ do { x := x + 1 } [ y ] ] ]", "new x = 3; a: exp [ do { x := x - 1 } [ 3 - x ] ]"},
		{"new x = 0; set: com { x := 1 }; get: exp [ x ]; reset: com { x := 0 }", "new x = 3; set: com { x := 2 }; get: exp [ x == 2 ]; reset: com { x := 3 }", "new x = 0; set: com { x := x == x }; get: exp [ x * x ]; reset: com { x := x - x }"},
		{"new n = 0; go: com { if n { fault } { n := 1 } }", "new n = 1; new m = 0; go: com { if n { n := 0; m := 2 } { if m { fault } { skip } } }"},
	} {
		for _, a := range texts {
			for _, b := range texts {
				wantSame(t, a, b, true)
			}
		}
	}
}

// P7.4: modules that are apart.
func TestModulesThatAreApart(t *testing.T) {
	for _, texts := range [][2]string{
		{"a: com { skip }", "a: com { stop }"}, {"a: com { skip }", "a: com { fault }"}, {"a: com { stop }", "a: com { fault }"},
		{"a: exp [ 1 ]", "a: exp [ 2 ]"}, {"a: exp [ 1 ]", "a: exp [ stop ]"}, {"a: com { skip }; b: com { fault }", "b: com { fault }; a: com { skip }"},
		{up, square}, {up, "new n = 1; inc: com { n := n + 1 }; get: exp [ n ]"}, {up, "new n = 0; inc: com { n := n + 2 }; get: exp [ n ]"}, {up, "new n = 0; inc: com { n := n + 1 }; get: exp [ do { n := 0 } [ n ] ]"},
		{"new n = 0; go: com { if n == 3 { fault } { n := n + 1 } }", "new n = 0; go: com { if n == 2 { fault } { n := n + 1 } }"},
		{"new n = 0; new m = 0; go: com { n := n + 1; if n { skip } { m := m + 1; if m { skip } { fault } } }", "go: com { skip }"},
		// A client that asks once sees no difference; one that asks again does.
		{"new x = 0; a: exp [ x ]; b: com { skip }", "new x = 0; a: exp [ new y = x [ do { x := 1 } [ y ] ] ]; b: com { skip }"},
	} {
		wantSame(t, texts[0], texts[1], false)
		wantSame(t, texts[1], texts[0], false)
		wantRelationError(t, texts[0], texts[1], api.ErrApart)
	}
}

// P7.4: Same is tell.Same of the pieces.
func TestSameOfPieces(t *testing.T) {
	texts := []string{up, down, square, "new x = 0; a: com { x := 1 }; b: exp [ x ]", "a: com { skip }; b: exp [ 0 ]", "a: com { " + tooLong + " }; b: exp [ 0 ]", "a: com { stop }; b: exp [ fault ]"}
	for _, a := range texts {
		for _, b := range texts {
			m, n := mustRead(t, a), mustRead(t, b)
			is, err := parts.Same(m, n)
			want, wantErr := tell.Same(pieceOf(t, m), pieceOf(t, n))
			if is != want || err != wantErr {
				t.Errorf("Same of %s, and of %s: %t, error %d; of their pieces %t, error %d", a, b, is, err, want, wantErr)
			}
		}
	}
}
