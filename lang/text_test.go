package lang_test

import (
	"strings"
	"testing"

	"doppelganger/api"
	"doppelganger/lang"
)

// P1.8: plain texts.
func TestText(t *testing.T) {
	for text, want := range map[string]string{
		"|-com:skip":                      "|- com : skip",
		"|-exp:2":                         "|- exp : 2",
		"p:com|-com:p":                    "p : com |- com : p",
		"p : com |- com : p ; skip":       "p : com |- com : p; skip",
		"|-exp:new x=1[x+x*2]":            "|- exp : new x = 1 [ x + x * 2 ]",
		"z:exp,f(com,exp,val):com|-exp:z": "f(com, exp, val) : com, z : exp |- exp : z",
		"b : exp, a(com,exp):com |- com : a({ stop },(b-(b-1))==(1))":    "a(com, exp) : com, b : exp |- com : a({ stop }, b - (b - 1) == 1)",
		"f ( val,com ):exp|-com:block k{new x=f(1,{exit k}){x:=exit k}}": "f(val, com) : exp |- com : block k { new x = f(1, { exit k }) { x := exit k } }",
		"|-com:skip;stop;fault":                                   "|- com : skip; stop; fault",
		"|-com:if 1{skip;skip}{stop}":                             "|- com : if 1 { skip; skip } { stop }",
		"|-exp:if(1)[stop][fault]":                                "|- exp : if 1 [ stop ] [ fault ]",
		"|-com:while(1<2){skip}":                                  "|- com : while 1 < 2 { skip }",
		"|-exp:do{skip}[do{stop}[1]]":                             "|- exp : do { skip } [ do { stop } [ 1 ] ]",
		"|-com:proc f():exp[1]{skip}":                             "|- com : proc f() : exp [ 1 ] { skip }",
		"|-exp:proc f(a:com,b:exp,c:val):exp[b][f({skip},1,(2))]": "|- exp : proc f(a : com, b : exp, c : val) : exp [ b ] [ f({ skip }, 1, 2) ]",
		"|- com : proc f ( a:com ,b : exp ):exp[do{a}[b]]{new z=f({fault},2){z:=z}}":       "|- com : proc f(a : com, b : exp) : exp [ do { a } [ b ] ] { new z = f({ fault }, 2) { z := z } }",
		"|- com : block k { block j { exit k; exit j } }; skip":                            "|- com : block k { block j { exit k; exit j } }; skip",
		"|- com : block k { new x = (exit k) + 1 { while exit k { x := (exit k) * x } } }": "|- com : block k { new x = exit k + 1 { while exit k { x := exit k * x } } }",
	} {
		if got := mustRead(t, text).Text(); got != want {
			t.Errorf("%q: text %q; want %q", text, got, want)
		}
	}
}

// P1.8: parentheses only where the tree would be another one without them.
func TestParentheses(t *testing.T) {
	for text, want := range map[string]string{
		"1 + 2 + 3":                        "1 + 2 + 3",
		"(1 + 2) + 3":                      "1 + 2 + 3",
		"1 + (2 + 3)":                      "1 + (2 + 3)",
		"1 - (2 - 3) - 1":                  "1 - (2 - 3) - 1",
		"(1 - 2) + (3 - 1)":                "1 - 2 + (3 - 1)",
		"1 * 2 * 3":                        "1 * 2 * 3",
		"1 * (2 * 3)":                      "1 * (2 * 3)",
		"(1 * 2) + (3 * 1)":                "1 * 2 + 3 * 1",
		"1 * (2 + 3)":                      "1 * (2 + 3)",
		"(1 + 2) * 3":                      "(1 + 2) * 3",
		"(1 + 2) * (3 - 1) - (1 < 2)":      "(1 + 2) * (3 - 1) - (1 < 2)",
		"(1 < 2) * (2 == 3)":               "(1 < 2) * (2 == 3)",
		"(1 == 2) < 3":                     "(1 == 2) < 3",
		"1 == (2 < 3)":                     "1 == (2 < 3)",
		"(1 == 2) == (2 == 3)":             "(1 == 2) == (2 == 3)",
		"(1 < 2) + 1 < 1 + (2 < 3)":        "(1 < 2) + 1 < 1 + (2 < 3)",
		"(1 + 2) == (3 * 1)":               "1 + 2 == 3 * 1",
		"(if 1 [ 2 ] [ (3) ]) * 2":         "if 1 [ 2 ] [ 3 ] * 2",
		"2 * (if 1 [ 2 + 1 ] [ 3 < 1 ])":   "2 * if 1 [ 2 + 1 ] [ 3 < 1 ]",
		"if (1 < 2) [ (1 < 2) ] [ (0) ]":   "if 1 < 2 [ 1 < 2 ] [ 0 ]",
		"(do { skip } [ 1 + 1 ]) * (stop)": "do { skip } [ 1 + 1 ] * stop",
		"(new x = (1 + 1) [ x ]) - ((2))":  "new x = 1 + 1 [ x ] - 2",
	} {
		if got := mustRead(t, "|- exp : "+text).Text(); got != "|- exp : "+want {
			t.Errorf("%q: %q; want %q", text, got, want)
		}
	}
}

// P1.8, P1.9: a text may be longer than MaxText, and is then not read back.
func TestLongText(t *testing.T) {
	step := api.Node{Kind: api.Call, Name: "abcdefgh"}
	arg := api.Node{Kind: api.Call, Name: "ijklmnop", Type: api.Exp}
	var nodes []api.Node
	for range 119 {
		nodes = append(nodes, api.Node{Kind: api.Seq, Kids: []int{len(nodes) + 1, len(nodes) + 5}})
		nodes = append(nodes, api.Node{Kind: api.Call, Name: step.Name, Kids: []int{len(nodes) + 1, len(nodes) + 2, len(nodes) + 3}}, arg, arg, arg)
	}
	nodes = append(nodes, api.Node{Kind: api.Call, Name: step.Name, Kids: []int{len(nodes) + 1, len(nodes) + 2, len(nodes) + 3}}, arg, arg, arg)
	decls := []api.Decl{{Name: step.Name, Args: []api.Type{api.Exp, api.Exp, api.Exp}}, {Name: arg.Name, Result: api.Exp}}
	p, err := lang.Build(decls, api.Com, nodes)
	if err != api.OK {
		t.Fatalf("Build: error %d", err)
	}
	one := "abcdefgh(ijklmnop, ijklmnop, ijklmnop)"
	want := "abcdefgh(exp, exp, exp) : com, ijklmnop : exp |- com : " + one + strings.Repeat("; "+one, 119)
	if p.Text() != want || len(want) <= api.MaxText {
		t.Errorf("a text of %d bytes; want %d", len(p.Text()), len(want))
	}
	wantRead(t, p.Text(), api.ErrForm)
}
