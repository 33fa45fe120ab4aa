package parts_test

import (
	"reflect"
	"slices"
	"testing"

	"doppelganger/api"
)

// wantPiece checks the piece of a module, node by node.
func wantPiece(t *testing.T, module, text string) {
	t.Helper()
	p, want := pieceOf(t, mustRead(t, module)), mustPiece(t, text)
	if p.Text() != want.Text() || p.Type() != want.Type() || !reflect.DeepEqual(p.Decls(), want.Decls()) || !reflect.DeepEqual(p.Nodes(), want.Nodes()) {
		t.Errorf("Piece of %s: %s; want %s", module, p.Text(), text)
	}
}

// P7.3: the declaration, the variables in their order, the bodies as arguments.
func TestPiece(t *testing.T) {
	for module, text := range map[string]string{
		"a: com { skip }": "client(com) : com |- com : client({ skip })",
		"a: exp [ 1 ]":    "client(exp) : com |- com : client(1)",
		"a: exp [ 1 ]; b: com { stop }; c: exp [ stop ]": "client(exp, com, exp) : com |- com : client(1, { stop }, stop)",
		"z: com { fault }; b: com { skip }":              "client(com, com) : com |- com : client({ fault }, { skip })",
		"new z = 3; new a = 1; get: exp [ a - z ]":       "client(exp) : com |- com : new z = 3 { new a = 1 { client(a - z) } }",
		"new a = 1; new z = 3; get: exp [ a - z ]":       "client(exp) : com |- com : new a = 1 { new z = 3 { client(a - z) } }",
		four + three: "client(com, exp, com) : com |- com : new x = 0 { new y = 1 { new z = 2 { new w = 3 { client({ x := y; z := w }, x + y * z - w, { skip }) } } } }",
		"new x = 2; a: com { skip; skip; x := 1 }":                               "client(com) : com |- com : new x = 2 { client({ skip; skip; x := 1 }) }",
		"a: exp [ do { skip } [ if 1 [ 2 ] [ 3 ] ] ]; b: exp [ (1 == 2) < 3 ]":   "client(exp, exp) : com |- com : client(do { skip } [ if 1 [ 2 ] [ 3 ] ], (1 == 2) < 3)",
		"new x = 1; a: com { new x = x { x := 2 } }; b: exp [ new x = 0 [ x ] ]": "client(com, exp) : com |- com : new x = 1 { client({ new x = x { x := 2 } }, new x = 0 [ x ]) }",
		"client: com { new client = 0 { client := 1 } }":                         "client(com) : com |- com : client({ new client = 0 { client := 1 } })",
		"a: com { proc client(c : com) : com { c } { client({ skip }) } }":       "client(com) : com |- com : client({ proc client(c : com) : com { c } { client({ skip }) } })",
		"new x = 0; client: com { block client { x := 1; exit client } }":        "client(com) : com |- com : new x = 0 { client({ block client { x := 1; exit client } }) }",
	} {
		wantPiece(t, module, text)
	}
}

// P7.3: the nodes of the piece, one by one.
func TestNodesOfPiece(t *testing.T) {
	p := pieceOf(t, mustRead(t, "new b = 2; new a = 1; go: com { a := b }; get: exp [ a ]"))
	want := []api.Node{
		{Kind: api.New, Name: "b", Kids: []int{1, 2}},
		{Kind: api.Num, Type: api.Exp, Value: 2},
		{Kind: api.New, Name: "a", Kids: []int{3, 4}},
		{Kind: api.Num, Type: api.Exp, Value: 1},
		{Kind: api.Call, Name: "client", Kids: []int{5, 7}},
		{Kind: api.Assign, Name: "a", Kids: []int{6}},
		{Kind: api.Read, Type: api.Exp, Name: "b"},
		{Kind: api.Read, Type: api.Exp, Name: "a"},
	}
	if got := p.Nodes(); !reflect.DeepEqual(got, want) {
		t.Errorf("Nodes: %+v; want %+v", got, want)
	}
	decls := []api.Decl{{Name: "client", Args: []api.Type{api.Com, api.Exp}}}
	if got := p.Decls(); !reflect.DeepEqual(got, decls) || p.Type() != api.Com {
		t.Errorf("Decls: %+v; want %+v", got, decls)
	}
}

// P7.2: the plain text, which is read back as the same module.
func TestText(t *testing.T) {
	for text, want := range map[string]string{
		"a:com{skip}":                  "a: com { skip }",
		"a:exp[1]":                     "a: exp [ 1 ]",
		"new x=0;a:exp[x];b:com{x:=1}": "new x = 0; a: exp [ x ]; b: com { x := 1 }",
		"new b=3;new a=1;z:exp[(a+(b))*2];y:exp[a-(b-1)==(1)]": "new b = 3; new a = 1; z: exp [ (a + b) * 2 ]; y: exp [ a - (b - 1) == 1 ]",
		four + three: four + three,
		"\na :\tcom\n{ if 1{skip;skip}{proc f(a:com,b:exp):com{a}{f({skip},1)}} }":        "a: com { if 1 { skip; skip } { proc f(a : com, b : exp) : com { a } { f({ skip }, 1) } } }",
		"new k=0;a:com{block k{exit k};while k{k:=new x=1[x]}};b:exp[do{k:=2}[(((k)))]]":  "new k = 0; a: com { block k { exit k }; while k { k := new x = 1 [ x ] } }; b: exp [ do { k := 2 } [ k ] ]",
		"new x = 0; a: com { new x = 0 { x := 1 } }; b: com { new x = 0 { skip }; skip }": "new x = 0; a: com { new x = 0 { x := 1 } }; b: com { new x = 0 { skip }; skip }",
		"client:com{new client=0{client:=1}}":                                             "client: com { new client = 0 { client := 1 } }",
	} {
		m := mustRead(t, text)
		if got := m.Text(); got != want {
			t.Errorf("Text of %q: %q; want %q", text, got, want)
		}
		again := mustRead(t, want)
		if again.Text() != want || pieceOf(t, again).Text() != pieceOf(t, m).Text() || !reflect.DeepEqual(again.Operations(), m.Operations()) {
			t.Errorf("%q is not read back as the same module", want)
		}
	}
}

// P7.2, P7.3, P7.6: a plain text may be longer than what is read; all else is as ever.
func TestLongPlainText(t *testing.T) {
	const step, plainStep = "abcdefgh:=abcdefgh", "abcdefgh := abcdefgh"
	text := "new abcdefgh=3;a:com{" + many(199, step, ";") + "}"
	plain := "new abcdefgh = 3; a: com { " + many(199, plainStep, "; ") + " }"
	m := mustRead(t, text)
	if got := m.Text(); got != plain {
		t.Errorf("Text: %q; want %q", got, plain)
	}
	want := "client(com) : com |- com : new abcdefgh = 3 { client({ " + many(199, plainStep, "; ") + " }) }"
	if got := pieceOf(t, m).Text(); got != want || len(plain) <= api.MaxText {
		t.Errorf("Piece: %q; want %q", got, want)
	}
	wantRead(t, plain, api.ErrForm)
	wantRelation(t, text, "a: com { skip }", "3 ")
}

// P7.2: the operations, in the order of the text.
func TestOperations(t *testing.T) {
	for text, want := range map[string][]api.Decl{
		"z: com { skip }": {{Name: "z"}},
		"z: exp [ 1 ]; client: com { skip }; a: exp [ 2 ]": {{Name: "z", Result: api.Exp}, {Name: "client"}, {Name: "a", Result: api.Exp}},
		four + three: {{Name: "a"}, {Name: "b", Result: api.Exp}, {Name: "c"}},
	} {
		got := mustRead(t, text).Operations()
		if !slices.EqualFunc(got, want, func(a, b api.Decl) bool {
			return a.Name == b.Name && a.Result == b.Result && len(a.Args) == 0
		}) {
			t.Errorf("Operations of %s: %v; want %v", text, got, want)
		}
	}
}
