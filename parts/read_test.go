package parts_test

import (
	"math/rand"
	"slices"
	"strings"
	"testing"

	"doppelganger/api"
	"doppelganger/parts"
)

// four are as many variables as there may be, and three as many operations.
const (
	four  = "new x = 0; new y = 1; new z = 2; new w = 3; "
	three = "a: com { x := y; z := w }; b: exp [ x + y * z - w ]; c: com { skip }"
)

// P7.1: what is by the grammar.
func TestGrammar(t *testing.T) {
	wantReads(t, api.OK,
		"a: com { skip }", "a:com{skip}", "a:exp[1]", "a : exp [ 1 ]",
		" \t\n a\n:\tcom \t{\nskip\t} \n", "\n\nnew\tx\n=\t0\n;\ta\n:\nexp\n[\nx\n]\n", "new x=0;a:exp[x]",
		"a: com { skip }; b: com { skip }", "a: com { skip } ;b:exp[2]\n;\nc :com{ stop }",
		"new x = 0; a: exp [ x ]", "new x = 3; a: exp [ x ]", four+"a: exp [ x + y + z + w ]", four+three, strings.ReplaceAll(four, " = ", "=")+three,
		"abcdefgh: com { skip }", "new abcdefgh = 1; a: exp [ abcdefgh ]", "newx: com { skip }", "comm: com { skip }", "hole: com { skip }",
	)
	// Braces of both kinds in bodies of both types.
	wantReads(t, api.OK,
		"a: com { if 1 { skip } { while 0 { block k { exit k } } } }; b: exp [ if 1 [ 2 ] [ if 0 [ 1 ] [ 3 ] ] ]",
		"a: com { proc f(c : com, e : exp) : exp [ do { c } [ e ] ] { new v = f({ skip }, new u = 1 [ u ]) { v := f({ fault }, 2) } } }",
		"a: exp [ do { proc f() : com { skip } { f; f } } [ proc g() : exp [ 1 ] [ g ] ] ]; b: com { skip }",
	)
}

// P7.1: what is not.
func TestNotByTheGrammar(t *testing.T) {
	wantReads(t, api.ErrForm,
		"", " ", ";", "new", "new x", "new x =", "new x = 0", "new x = 0;", "new x = 0; ;", four, "a", "a:", "a: com", "a: exp", "a: com {", "a: exp [",
		"a: com { }", "a: exp [ ]", "a: com { skip", "a: exp [ 1", "a: com skip", "a: exp 1", "a com { skip }", ": com { skip }", "a: { skip }", "a: [ 1 ]",
		"com { skip }", "{ skip }", "|- com : skip", "client(com) : com |- com : client({ skip })",
		"a: com { skip };", ";a: com { skip }", "a: com { skip };; b: com { skip }", "a: com { skip } b: com { skip }", "a: com { skip }, b: com { skip }",
		"a: com { skip } }", "a: com { skip } skip", "a: exp [ 1 ] ]", "a: exp [ 1 ] 2", "a: com { skip }.",
		"a: com [ skip ]", "a: com [ 1 ]", "a: exp { 1 }", "a: exp { skip }", "a: exp [ skip ]", "a: com { 1 }", "a: val [ 1 ]", "a: com { skip } [ 1 ]",
		"a(): com { skip }", "a(x : val): com { skip }", "a, b: com { skip }", "a: com : com { skip }", "a:: com { skip }", "a := com { skip }", "a: = com { skip }",
	)
	// Variables.
	wantReads(t, api.ErrForm,
		"new x = 0, a: exp [ x ]", "new x = 0 a: exp [ x ]", "new x 0; a: exp [ x ]", "new = 0; a: exp [ 1 ]", "new x == 0; a: exp [ x ]", "new x := 0; a: exp [ x ]",
		"x = 0; a: exp [ 1 ]", "newx = 0; a: exp [ 1 ]", "new x = 0; new y = 0, a: exp [ x ]", "a: exp [ 1 ]; new x = 0", "a: exp [ 1 ]; new x = 0; b: exp [ 1 ]", "a: exp [ x ]; new x = 0;",
		"new x = 4; a: exp [ x ]", "new x = 9; a: exp [ x ]", "new x = 12; a: exp [ x ]", "new x = 00; a: exp [ x ]", "new x = 1 2; a: exp [ x ]", "new x = -1; a: exp [ x ]",
		"new x = y; a: exp [ x ]", "new x = 1 + 1; a: exp [ x ]", "new x = (1); a: exp [ x ]", "new x = 0 { a: exp [ x ] }", "new new x = 0; a: exp [ x ]", "new x y = 0; a: exp [ x ]", "new x, y = 0; a: exp [ x ]",
	)
	// Names.
	wantReads(t, api.ErrForm,
		"abcdefghi: com { skip }", "new abcdefghi = 0; a: com { skip }", "A: com { skip }", "a_b: com { skip }", "a1: com { skip }", "1: com { skip }", "new X = 0; a: com { skip }", "new x1 = 0; a: com { skip }", "é: com { skip }",
	)
	for _, word := range words {
		wantReads(t, api.ErrForm, word+": com { skip }", "new "+word+" = 0; a: com { skip }", "a: com { skip }; "+word+": exp [ 1 ]")
	}
	// What stands between the parts, and no space, tab or newline is.
	for _, gap := range []string{"\r", "\v", "\f", "\x00", "\u00a0", "\u2003", "/", "//", "#", "\xff", "\\n", "."} {
		wantReads(t, api.ErrForm, "a:"+gap+"com { skip }", "a: com { skip }"+gap, gap+"a: com { skip }", "a: com { skip"+gap+" }", "new x ="+gap+"0; a: com { skip }")
	}
}

// P7.1: bodies that are not by the grammar of chapter 1, and braces that do not fit.
func TestBodiesNotByTheGrammar(t *testing.T) {
	for _, body := range []string{
		"", ";", "skip;", ";skip", "skip skip", "skip, skip", "x :=", ":= 1", "x = 1", "x := 4", "x := 12", "{ skip }", "(skip)", "if 1 { skip }", "while { skip }", "new x = 0", "skip } { skip",
		"x := 1 < 2 < 3", "f(1, 2, 3, 1)", "f()", "x := f[1]", "x := (1", "x := 1)", "x := 1 ]", "if 1 { skip ] [ skip }", "proc f(a : com, a : com) : com { skip } { skip }", "exit", "X := 1", "skip |- com : skip", "f: com { skip }",
	} {
		wantRead(t, "new x = 0; a: com { "+body+" }", api.ErrForm)
		wantRead(t, "new x = 0; a: com { "+body+" }; b: exp [ 1 ]", api.ErrForm)
		wantRead(t, "b: exp [ 1 ]; a: com {"+body+"}", api.ErrForm)
		wantRead(t, "a: exp [ do { "+body+" } [ 1 ] ]", api.ErrForm)
	}
	for _, body := range []string{
		"", "1 2", "12", "4", "1;", "+ 1", "1 +", "[ 1 ]", "{ skip }", "skip", "x := 1", "1 ] [ 1", "1 } { 1", "(1", "1)", "if 1 [ 2 ]", "do [ 1 ]", "do { skip }", "1 == 2 == 3", "1 := 2", "while 1 { skip }", "block k { skip }",
	} {
		wantRead(t, "new x = 0; a: exp [ "+body+" ]", api.ErrForm)
		wantRead(t, "new x = 0; a: exp [ "+body+" ]; b: exp [ 1 ]", api.ErrForm)
		wantRead(t, "b: com { skip }; a: exp ["+body+"]", api.ErrForm)
	}
	wantReads(t, api.ErrForm,
		"a: com { skip ]", "a: com [ skip }", "a: com { if 1 { skip } { skip }", "a: com { if 1 { skip } { skip } } }", "a: com } skip {", "a: exp [ 1 }", "a: exp ] 1 [",
		"a: com { f(] }; b: com { [) }", "a: com { skip }; b: com { { skip }", "a: exp [ if 1 [ 2 ] [ 3 ]", "a: exp [ x := { ] ; b: exp [ } ]",
	)
}

// P7.1: how many variables and operations there may be.
func TestCounts(t *testing.T) {
	wantRead(t, four+three, api.OK)
	wantRead(t, four+"new v = 0; a: com { skip }", api.ErrForm)
	wantRead(t, four+"new v = 0; "+three, api.ErrForm)
	wantRead(t, four+three+"; d: com { skip }", api.ErrForm)
	wantRead(t, "a: com { skip }; b: com { skip }; c: com { skip }; d: exp [ 1 ]", api.ErrForm)
	for _, count := range []int{5, 8, 20, 26, 200} {
		text := ""
		for i := range count {
			text += "new " + string(rune('a'+i/26)) + string(rune('a'+i%26)) + " = 0; "
		}
		wantRead(t, text+"op: com { skip }", api.ErrForm)
		text = strings.ReplaceAll(strings.ReplaceAll(text, "new ", ""), " = 0", ": com { skip }")
		wantRead(t, strings.TrimSuffix(text, "; "), api.ErrForm)
	}
}

// P7.1: all names are different, and no variable is called client.
func TestNames(t *testing.T) {
	wantReads(t, api.ErrForm,
		"new x = 0; new x = 0; a: com { skip }", "new x = 0; new y = 1; new x = 2; a: com { skip }", "new x = 0; new y = 1; new z = 2; new x = 3; a: com { skip }",
		"a: com { skip }; a: com { skip }", "a: exp [ 1 ]; b: com { skip }; a: exp [ 1 ]", "a: com { skip }; b: com { skip }; b: exp [ 1 ]",
		"new x = 0; x: com { skip }", "new x = 0; a: com { skip }; x: exp [ x ]", "new x = 0; new y = 0; x: com { skip }; a: com { skip }", "new x = 0; new y = 0; y: exp [ 1 ]",
		"new client = 0; a: com { skip }", "new x = 0; new client = 0; a: com { skip }", "new client = 0; a: com { client := 1 }", "new client = 0; client: com { skip }",
	)
	// An operation may be called client, and so may be what a body binds.
	wantReads(t, api.OK,
		"client: com { skip }", "new x = 0; client: exp [ x ]; clients: com { x := 1 }",
		"a: com { new client = 1 { client := client + 1 } }", "a: com { block client { exit client } }", "a: com { proc client() : com { skip } { client } }",
		"a: exp [ proc f(client : val) : exp [ client ] [ f(1) ] ]", "client: exp [ proc client(client : exp) : exp [ client ] [ client(1) ] ]", "new x = 0; a: exp [ new client = x [ client + x ] ]",
	)
	// What a body binds may have the name of a variable, or of an operation, too.
	wantReads(t, api.OK,
		"new x = 0; a: com { new x = x { x := 2 } }", "new x = 0; a: com { block x { exit x }; x := 1 }", "new x = 0; a: com { proc x(x : com) : com { x } { x({ skip }) }; x := 1 }", "new x = 0; a: exp [ proc f(x : exp) : exp [ x ] [ f(x) ] ]",
		"a: com { new a = 0 { a := 1 } }", "a: com { proc b() : com { skip } { b } }; b: com { block a { exit a } }",
	)
}

// P7.1: the longest text, and one that is longer by a byte, wherever the bytes stand.
func TestLength(t *testing.T) {
	for _, text := range []string{up, "a: com { skip }", "new x=0;a:exp[x]", four + three, "new a=0;new b=1;new c=2;new d=3;e:exp[d]", "new abcdefgh=1;a:exp[abcdefgh]", "a:exp[1];b:exp[2];c:exp[3]"} {
		space := strings.Repeat(" ", api.MaxText-100-len(text))
		at := strings.IndexAny(text, "{[")
		for _, long := range []string{text + space, space + text, text[:at] + space + text[at:], text[:at+1] + space + text[at+1:], text[:at+1] + strings.ReplaceAll(space, " ", "\n") + text[at+1:]} {
			wantRead(t, long, api.OK)
			wantAsShort(t, long, text)
			wantRead(t, long+" ", api.ErrForm)
			wantRead(t, "\t"+long, api.ErrForm)
		}
	}
	wantReads(t, api.ErrForm, strings.Repeat(" ", api.MaxText-100), strings.Repeat("a", api.MaxText), strings.Repeat("{", api.MaxText-100), "a: com {"+strings.Repeat("{", api.MaxText-200), "a: exp ["+strings.Repeat("[(", 1900))
	// Ahead of ErrName, ErrType and ErrFull.
	long := strings.Repeat(" ", api.MaxText)
	wantReads(t, api.ErrForm, "a: com { b }"+long, "new x = 0; a: com { x }"+long, "a: com { "+many(400, "skip", ";")+"}"+long)
}

// wantAsShort checks that a text makes the module of a shorter one, and that it can be run, too.
func wantAsShort(t *testing.T, long, short string) {
	t.Helper()
	m, n := mustRead(t, long), mustRead(t, short)
	if m.Text() != n.Text() || pieceOf(t, m).Text() != pieceOf(t, n).Text() {
		t.Errorf("%q and spaces make the module %q", short, m.Text())
	}
	got, err := parts.Relation(m, m)
	want, _ := parts.Relation(n, n)
	if err != api.OK || !isSameRelation(got, want) {
		t.Errorf("Relation of %q and spaces: %v, error %d; want %v", short, got, err, want)
	}
}

// P7.1: a body uses no other names.
func TestUnboundNames(t *testing.T) {
	wantReads(t, api.ErrName,
		"a: com { b }", "a: com { a }", "a: exp [ a ]", "a: com { b }; b: com { skip }", "a: com { skip }; b: com { a }", "new x = 0; a: com { x := x + 1 }; b: exp [ do { a } [ x ] ]",
		"a: com { x := 1 }", "a: exp [ x ]", "new x = 0; a: com { y := x }", "new x = 0; a: com { x := y }", "a: com { exit k }", "a: com { block k { skip }; exit k }", "a: com { f({ skip }, 1) }",
		"a: com { client }", "a: exp [ client ]", "a: com { client({ skip }) }", "new x = 0; a: com { client({ x := 1 }); skip }", "a: com { client := 1 }", "a: exp [ client(1) ]; client: com { skip }", "client: com { client }", "client: exp [ client ]",
		"a: com { hole }", "a: com { new x = x { skip } }", "a: com { new x = 0 { x := 1 }; x := 2 }", "a: com { new x = 0 { x := 1 } }; b: exp [ x ]", "a: com { proc f() : com { f } { f } }",
	)
}

// P7.1: a body uses the variables and its own names as their types have it.
func TestTypes(t *testing.T) {
	for _, body := range []string{
		"x", "x({ skip })", "x(1)", "exit x", "x; x := 1", "block k { k }", "block k { k := 1 }", "block x { x := 1 }", "proc f() : exp [ 1 ] { f }", "proc f() : com { skip } { f(1) }", "proc f(c : com) : com { c } { f(1) }", "proc f(c : exp) : com { skip } { f({ skip }) }",
		"proc f() : com { skip } { f := 1 }", "proc f() : com { skip } { exit f }", "x := x(1)", "x := do { x } [ 1 ]", "proc f(v : val) : com { v } { f(x) }", "proc x() : com { skip } { x := 1 }", "new client = 0 { client }", "new y = x { exit y }",
	} {
		wantRead(t, "new x = 0; a: com { "+body+" }", api.ErrType)
		wantRead(t, "new x = 0; b: com { x := 1 }; a: exp [ do { "+body+" } [ x ] ]", api.ErrType)
	}
	for _, body := range []string{"x(1)", "x({ skip })", "exit x", "proc f() : com { skip } [ f ]", "proc x() : exp [ 1 ] [ x(1) ]", "do { block k { x := k } } [ 1 ]"} {
		wantRead(t, "new x = 0; a: exp [ "+body+" ]", api.ErrType)
	}
}

// deep is a command of so many levels, and a sum likewise.
func deep(levels int) string {
	return strings.Repeat("while 1{", levels-1) + "skip" + strings.Repeat("}", levels-1)
}

func deepSum(levels int) string {
	return strings.Repeat("1+(", levels-2) + "1+1" + strings.Repeat(")", levels-2)
}

// skips is a command of an odd number of nodes, and sum an expression likewise, of few levels.
func skips(nodes int) string {
	return many((nodes+1)/2, "skip", ";")
}

func sum(nodes int) string {
	if nodes == 1 {
		return "1"
	}
	left := max(1, nodes/4*2-1)
	return "(" + sum(left) + ")+(" + sum(nodes-1-left) + ")"
}

// P7.2: the first of ErrName and ErrType, operation by operation, behind ErrForm, ahead of ErrFull.
func TestFirstError(t *testing.T) {
	const (
		form, name, typ = "{ x + }", "{ y := 1 }", "{ x }"
		both            = "{ y := 1; x }"
		other           = "{ x; y := 1 }"
		fine            = "{ x := 1 }"
	)
	full := "{ " + skips(601) + " }"
	fullName := "{ " + skips(601) + "; y }"
	for bodies, want := range map[[3]string]api.Errno{
		{name, typ, fine}: api.ErrName, {typ, name, fine}: api.ErrType, {fine, name, typ}: api.ErrName, {fine, typ, name}: api.ErrType,
		{both, typ, fine}: api.ErrName, {other, name, fine}: api.ErrType, {fine, fine, both}: api.ErrName, {fine, fine, other}: api.ErrType,
		{name, form, fine}: api.ErrForm, {typ, fine, form}: api.ErrForm, {form, name, typ}: api.ErrForm, {fine, fine, form}: api.ErrForm, {name, typ, form}: api.ErrForm,
		{full, fine, name}: api.ErrName, {full, typ, fine}: api.ErrType, {name, full, typ}: api.ErrName, {fine, fullName, typ}: api.ErrName, {typ, fullName, fine}: api.ErrType,
		{full, form, fine}: api.ErrForm, {full, name, form}: api.ErrForm, {full, fine, fine}: api.ErrFull, {fine, full, fine}: api.ErrFull, {fine, fine, full}: api.ErrFull, {fine, fine, fine}: api.OK,
	} {
		wantRead(t, "new x = 0; a: com "+bodies[0]+"; b: com "+bodies[1]+"; c: com "+bodies[2], want)
		wantRead(t, "new x = 0; a: com "+bodies[0]+"; b: com "+bodies[1]+"; c: com "+bodies[2]+"; d: com { skip }", api.ErrForm)
	}
}

// P7.2: ErrFull by the nodes of the piece: two for each variable, one of the call, those of the bodies.
func TestTooManyNodes(t *testing.T) {
	for _, c := range []struct {
		variables string
		count     int
	}{{"", 0}, {"new x=0;", 1}, {"new x=0;new y=0;", 2}, {"new x=0;new y=0;new z=0;new w=0;", 4}} {
		room := api.MaxNodes - 2*c.count - 1 // an odd number
		wantRead(t, c.variables+"a:com{"+skips(room)+"}", api.OK)
		wantRead(t, c.variables+"a:exp["+sum(room)+"]", api.OK)
		wantRead(t, c.variables+"a:com{"+skips(room+2)+"}", api.ErrFull)
		wantRead(t, c.variables+"a:exp["+sum(room+2)+"]", api.ErrFull)
		wantRead(t, c.variables+"a:com{"+skips(room-2)+"};b:exp[1]", api.OK)
		wantRead(t, c.variables+"a:com{"+skips(room)+"};b:exp[1]", api.ErrFull)
		wantRead(t, c.variables+"a:com{"+skips(room-200)+"};b:exp["+sum(199)+"];c:com{skip}", api.OK)
		wantRead(t, c.variables+"a:com{"+skips(room-200)+"};b:exp["+sum(201)+"];c:com{skip}", api.ErrFull)
	}
	// An even number: each body is small enough, but the piece has a node too many.
	wantRead(t, "a:com{"+skips(299)+"};b:com{while 0{"+skips(297)+"}}", api.OK)
	wantRead(t, "a:com{"+skips(299)+"};b:com{"+skips(301)+"}", api.ErrFull)
}

// P7.2: ErrFull by the levels of the piece: one for each variable, one of the call, those of the bodies.
func TestTooManyLevels(t *testing.T) {
	for count, variables := range []string{"", "new x=0;", "new x=0;new y=0;", "new x=0;new y=0;new z=0;", "new x=0;new y=0;new z=0;new w=0;"} {
		room := api.MaxNest - count - 1
		for _, around := range [][2]string{{"", ""}, {"b:com{skip};", ""}, {"", ";b:exp[1]"}} {
			wantRead(t, variables+around[0]+"a:com{"+deep(room)+"}"+around[1], api.OK)
			wantRead(t, variables+around[0]+"a:exp["+deepSum(room)+"]"+around[1], api.OK)
			wantRead(t, variables+around[0]+"a:com{"+deep(room+1)+"}"+around[1], api.ErrFull)
			wantRead(t, variables+around[0]+"a:exp["+deepSum(room+1)+"]"+around[1], api.ErrFull)
		}
		// A row of steps stands one level above its steps, however long it is.
		wantRead(t, variables+"a:com{skip;skip;skip;"+deep(room-1)+"}", api.OK)
		wantRead(t, variables+"a:com{skip;skip;skip;"+deep(room)+"}", api.ErrFull)
	}
}

// samples are texts of modules in their parts.
var samples = [][]string{
	{"a", ":", "com", "{", "skip", "}"},
	{"new", "x", "=", "2", ";", "a", ":", "exp", "[", "x", "]"},
	{"new", "x", "=", "0", ";", "new", "y", "=", "1", ";", "a", ":", "com", "{", "x", ":=", "y", ";", "y", ":=", "x", "}", ";", "b", ":", "exp", "[", "x", "+", "y", "]"},
	{"a", ":", "com", "{", "if", "1", "{", "skip", "}", "{", "fault", "}", "}", ";", "b", ":", "exp", "[", "if", "1", "[", "2", "]", "[", "3", "]", "]", ";", "c", ":", "com", "{", "stop", "}"},
	{"new", "x", "=", "3", ";", "a", ":", "exp", "[", "do", "{", "block", "k", "{", "exit", "k", "}", "}", "[", "x", "]", "]", ";", "x", ":", "com", "{", "skip", "}"},
	{"new", "x", "=", "1", ";", "a", ":", "com", "{", "x", ":=", "a", "}"},
	{"new", "x", "=", "1", ";", "a", ":", "com", "{", "skip", ";", "x", ":=", "x", ";", "x", "}", ";", "b", ":", "exp", "[", "x", "]"},
	{"new", "n", "=", "0", ";", "inc", ":", "com", "{", "proc", "f", "(", "v", ":", "val", ")", ":", "com", "{", "n", ":=", "v", "}", "{", "f", "(", "n", "+", "1", ")", "}", "}"},
}

// wantAsReferred checks what comes of a text against the reference.
func wantAsReferred(t *testing.T, text string) api.Errno {
	t.Helper()
	d, want := refer(text)
	wantRead(t, text, want)
	if want == api.OK {
		if m := mustRead(t, text); m.Text() != mustRead(t, d.text()).Text() {
			t.Errorf("Text of %q: %q; want that of %q", text, m.Text(), d.text())
		}
	}
	return want
}

// P7.1, P7.2: each part of some modules missing, twice, in the place of the next one, or behind another one.
func TestEachPart(t *testing.T) {
	met := map[api.Errno]int{}
	try := func(parts ...[]string) {
		met[wantAsReferred(t, strings.Join(slices.Concat(parts...), " "))]++
	}
	for _, sample := range samples {
		for i, part := range sample {
			try(sample[:i], sample[i+1:])
			try(sample[:i], []string{part, part}, sample[i+1:])
			if i > 0 {
				try(sample[:i-1], []string{part, sample[i-1]}, sample[i+1:])
			}
			for _, other := range []string{"new", "x", "a", "client", ":", ";", "=", "0", "com", "exp", "{", "}", "[", "]", "skip", "?"} {
				try(sample[:i], []string{other}, sample[i:])
				try(sample[:i], []string{other}, sample[i+1:])
			}
		}
	}
	for _, err := range []api.Errno{api.OK, api.ErrForm, api.ErrName, api.ErrType} {
		if met[err] < 10 {
			t.Errorf("error %d came up %d times: too seldom", err, met[err])
		}
	}
}

// P7.1, P7.2: some bytes of modules changed.
func TestRandomTexts(t *testing.T) {
	r := rand.New(rand.NewSource(7))
	met := map[api.Errno]int{}
	for range 50000 {
		sample := slices.Clone(samples[r.Intn(len(samples))])
		for range r.Intn(4) {
			sample[r.Intn(len(sample))] = sample[r.Intn(len(sample))]
		}
		text := strings.Join(sample, []string{" ", "\n", "\t "}[r.Intn(3)])
		for range 1 + r.Intn(3) {
			at := r.Intn(len(text))
			more := []string{"", " ", "x", "a", "b", "y", "0", "1", ":", ";", "=", "{", "}", "[", "]", "skip", "\r", "é", "new z = 1; ", "c: exp [ 2 ]; "}[r.Intn(20)]
			text = text[:at] + more + text[at+r.Intn(2):]
		}
		met[wantAsReferred(t, text)]++
	}
	for _, err := range []api.Errno{api.OK, api.ErrForm, api.ErrName, api.ErrType} {
		if met[err] < 50 {
			t.Errorf("error %d came up %d times: too seldom", err, met[err])
		}
	}
}
