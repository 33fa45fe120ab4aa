package lang_test

import (
	"strings"
	"testing"

	"doppelganger/api"
)

// P1.1: what is by the grammar.
func TestGrammar(t *testing.T) {
	for _, text := range []string{
		"|-com:skip",
		" \t\n|- \n com \t : skip \n",
		"p:com|-com:p",
		"f(com,exp,val):exp,a:com,b:exp,c:com|-com:a",
		"|- com : stop",
		"|- exp : stop",
		"|- com : fault",
		"|- exp : fault",
		"|- exp : 0",
		"|- exp : 3",
		"|- exp : ((((1))))",
		"|- exp : 1+2-3*0",
		"|- exp : 1==2",
		"|- exp : 1<2",
		"|- exp : (1<2)<3",
		"|- exp : 1<(2==3)",
		"|- exp : if1[2][3]",
		"|- exp : if 1 [ 2 ] [ 3 ] + 1",
		"|- exp : if if 1 [ 2 ] [ 3 ] [ 1 ] [ 0 ]",
		"|- exp : do { skip } [ 1 ] * 2",
		"|- exp : new x = 1 [ x ] - 1",
		"|- exp : proc f() : exp [ 1 ] [ f ] == 1",
		"|- com : if 1 { skip } { stop; fault }",
		"|- com : while1{skip}",
		"|- com : while 1 < 2 { skip }",
		"|- com : new x=0{x:=1;x:=x}",
		"|- com : new x = 0 { x:=x==x }",
		"|- com : proc f() : com { skip } { f }",
		"|- com : proc f(a : com, b : exp, c : val) : exp [ c ] { skip }",
		"|- com : block k { exit k }",
		"|- com : block k { new x = exit k { skip } }",
		"f(com, exp) : com |- com : f({ skip; skip }, 1 + 2)",
		"f(com) : com |- com : f ( { skip } )",
		"f(exp) : exp |- exp : f((1) + 2)",
		"hole : com, skips : com, iff : exp |- com : skips; new whil = iff { hole }",
		"abcdefgh : com |- com : abcdefgh",
		"|- com : proc abcdefgh(ijklmnop : com) : com { ijklmnop } { skip }",
	} {
		wantRead(t, text, api.OK)
	}
}

// P1.1, P1.5: what is not by the grammar.
func TestNotGrammar(t *testing.T) {
	for _, text := range []string{
		"", " ", "|-", "|- com", "|- com :", "|- exp :", "|- val : 1", "|- val : skip", "|- skip", "com : skip", "skip",
		"|- com : skip skip", "|- com : skip;", "|- com : ; skip", "|- com : skip; ; skip", "|- com : skip }", "|- com : { skip }",
		"|- com : 1", "|- com : 1 + 2", "|- exp : skip", "|- exp : 1; 2", "|- exp : 1 skip", "|- exp : x := 1",
		"|- exp : 4", "|- exp : 9", "|- exp : 12", "|- exp : 1 2", "|- exp : 01", "|- exp : -1", "|- exp : +1",
		"|- exp : 1 < 2 < 3", "|- exp : 1 == 2 == 3", "|- exp : 1 == 2 < 3", "|- exp : 1 = 2", "|- exp : 1 > 2", "|- exp : 1 / 2",
		"|- exp : (1", "|- exp : 1)", "|- exp : ()", "|- exp : 1 +", "|- exp : * 1", "|- exp : 1 + * 2", "|- exp : 1 = = 2",
		"|- exp : if 1 { 2 } { 3 }", "|- exp : if 1 [ 2 ]", "|- exp : if [ 1 ] [ 2 ]", "|- com : if 1 [ skip ] [ skip ]",
		"|- com : if 1 { skip }", "|- com : if { skip } { skip }", "|- com : if 1 { } { skip }",
		"|- com : while { skip }", "|- com : while 1 [ 1 ]", "|- exp : while 1 { skip }", "|- com : while 1 { }",
		"|- exp : do { skip }", "|- exp : do [ 1 ] [ 1 ]", "|- exp : do { 1 } [ 1 ]", "|- com : do { skip } [ 1 ]",
		"|- com : new x { skip }", "|- com : new = 1 { skip }", "|- com : new x == 1 { skip }", "|- com : new x := 1 { skip }",
		"|- com : new x = 1 [ 1 ]", "|- exp : new x = 1 { skip }", "|- com : new if = 1 { skip }", "|- com : new 1 = 1 { skip }",
		"|- com : block { skip }", "|- com : block k [ 1 ]", "|- exp : block k { skip }", "|- com : block val { skip }",
		"|- com : exit", "|- com : block k { exit }", "|- com : block k { exit (k) }", "|- com : exit 1", "|- com : exit com",
		"|- com : new x = 0 { x : = 1 }", "|- com : new x = 0 { x = 1 }", "|- com : new x = 0 { x := { skip } }", "|- com : new x = 0 { (x) := 1 }",
		"|- com : proc f { skip } { skip }", "|- com : proc f() { skip } { skip }", "|- com : proc f() : com { skip }",
		"|- com : proc f() : val [ 1 ] { skip }", "|- com : proc f() : val [ skip ] { skip }", "|- com : proc f() : val { skip } { skip }", "|- com : proc f() : exp { skip } { skip }", "|- com : proc f() : com [ 1 ] { skip }",
		"|- com : proc f() : com { skip } [ 1 ]", "|- com : proc f(a) : com { skip } { skip }", "|- com : proc f(a : com,) : com { skip } { skip }",
		"|- com : proc f(, a : com) : com { skip } { skip }", "|- com : proc f(com) : com { skip } { skip }",
		"|- com : proc f(a : com b : com) : com { skip } { skip }", "|- com : proc do() : com { skip } { skip }",
		"p |- com : p", "p : |- com : p", "p : val |- com : skip", "p : com, |- com : p", ", p : com |- com : p", "p : com q : com |- com : p",
		"p() : com |- com : p", "p(com : com |- com : skip", "p(com,) : com |- com : skip", "p(q) : com |- com : skip", "p(com exp) : com |- com : skip",
		"p(com) |- com : skip", "exp : exp |- com : skip", "1 : exp |- com : skip", "p : com | - com : p", "p : com - com : p", "p : com |-- com : p",
		"p : com |- com : p()", "p : com |- com : p(", "p : com |- com : p({ p }", "p : com |- com : p({ p },)", "p : com |- com : p(, 1)", "p : com |- com : p({ })",
		"p : com |- com : p(p := 1)", "p : com |- com : p(skip)", "p : com |- com : p[1]", "p : com |- com : (p)", "p : com |- com : p; { p }",
		"|- com : Skip", "|- com : SKIP", "|- com : x_y", "|- com : skip\r", "|- com : skip\v", "|- com : skip\x00", "|- com : sk ip", "|- com : skip // no",
		"|- com : \u00fc", "|- com : skip\u00a0", "|- com : \xff", "|- exp : \u0661", "|- com : skip|", "|- com : skip |- com : skip", "|- com : skip!",
		"abcdefghi : com |- com : skip", "|- com : abcdefghi", "|- com : new abcdefghi = 0 { skip }", "|- com : block abcdefghi { skip }",
		"|- com : proc abcdefghi() : com { skip } { skip }", "|- com : proc f(abcdefghi : com) : com { skip } { skip }", "|- com : exit abcdefghi",
	} {
		wantRead(t, text, api.ErrForm)
	}
	for _, word := range strings.Fields("skip stop fault if while new proc block exit do com exp val") {
		wantRead(t, word+" : com |- com : skip", api.ErrForm)
		wantRead(t, "|- com : proc f("+word+" : com) : com { skip } { skip }", api.ErrForm)
		wantRead(t, "|- com : block "+word+" { skip }", api.ErrForm)
		wantRead(t, "|- com : "+word+" := 1", api.ErrForm)
		wantRead(t, "a"+word+" : com |- com : a"+word, api.OK)
	}
}

// P1.1: numbers of declarations, arguments and parameters, and names that stand twice; each ahead of names that are not bound.
func TestGrammarNumbers(t *testing.T) {
	wantRead(t, "a : com, b : com, c : com, d : com |- com : skip", api.OK)
	wantRead(t, "a : com, b : com, c : com, d : com, e : com |- com : skip", api.ErrForm)
	wantRead(t, "f(com, com, com) : com |- com : f({ skip }, { skip }, { skip })", api.OK)
	wantRead(t, "f(com, com, com, com) : com |- com : skip", api.ErrForm)
	wantRead(t, "|- com : f(1, 2, 3)", api.ErrName)
	wantRead(t, "|- com : f(1, 2, 3, 1)", api.ErrForm)
	wantRead(t, "|- com : proc f(a : com, b : exp, c : val) : com { skip } { skip }", api.OK)
	wantRead(t, "|- com : proc f(a : com, b : exp, c : val, d : com) : com { skip } { skip }", api.ErrForm)
	wantRead(t, "x : com, x : com |- com : x", api.ErrForm)
	wantRead(t, "x : com, y : exp, x(val) : exp |- com : z", api.ErrForm)
	wantRead(t, "|- com : proc f(a : com, b : com, a : val) : com { z } { z }", api.ErrForm)
	wantRead(t, "|- com : proc f(a : com) : com { proc g(a : exp) : com { skip } { a } } { f({ skip }) }", api.OK)
}

// P1.5: the length of a text, at the last value that is allowed and at the first one that is not.
func TestTextLength(t *testing.T) {
	text := "|- com : skip"
	wantRead(t, text+strings.Repeat(" ", api.MaxText-len(text)), api.OK)
	wantRead(t, text+strings.Repeat(" ", api.MaxText-len(text)+1), api.ErrForm)
	wantRead(t, strings.Repeat("(", 1<<20), api.ErrForm)
	deep := (api.MaxText - len("|- exp : 1")) / 2
	wantRead(t, "|- exp : "+strings.Repeat("(", deep)+"1"+strings.Repeat(")", deep), api.OK)
}

// P1.2: what binds a name, and where.
func TestNames(t *testing.T) {
	for text, want := range map[string]api.Errno{
		"p : com |- com : p": api.OK,
		"p : com |- com : proc f(a : com) : com { p; a } { f({ p }); block k { new x = 0 { p } } }": api.OK,
		"|- com : p":                  api.ErrName,
		"|- exp : p":                  api.ErrName,
		"|- com : x := 1":             api.ErrName,
		"|- com : x := y":             api.ErrName,
		"|- com : exit k":             api.ErrName,
		"|- exp : exit k":             api.ErrName,
		"|- com : new x = x { skip }": api.ErrName,
		"|- com : new x = 1 { new x = x { x := x } }":                            api.OK,
		"|- com : new x = 1 { skip }; x := 1":                                    api.ErrName,
		"|- com : new x = new y = 1 [ y ] { x := y }":                            api.ErrName,
		"|- com : proc f() : com { f } { f }":                                    api.ErrName,
		"f : com |- com : proc f() : com { f } { f }":                            api.OK,
		"|- com : proc f() : com { skip } { f }; f":                              api.ErrName,
		"|- com : proc f(a : com) : com { skip } { a }":                          api.ErrName,
		"|- com : proc f(a : com) : com { skip } { skip }; a":                    api.ErrName,
		"|- com : proc f(f : com) : com { f } { f({ skip }) }":                   api.OK,
		"|- com : proc f(a : com) : com { a } { f({ a }) }":                      api.ErrName,
		"|- com : proc f(a : val) : com { a := a + 1 } { f(2) }":                 api.OK,
		"|- com : new x = 0 { proc f() : com { x := 1 } { f } }":                 api.OK,
		"|- com : proc f() : com { x := 1 } { new x = 0 { f } }":                 api.ErrName,
		"|- com : block k { skip }; exit k":                                      api.ErrName,
		"|- com : block k { exit j }":                                            api.ErrName,
		"|- com : block k { block j { exit k; exit j } }":                        api.OK,
		"|- com : block k { proc f() : com { exit k } { f } }":                   api.OK,
		"f(com) : com |- com : block k { f({ exit k }) }":                        api.OK,
		"f(val) : com |- com : block k { f(exit k) }":                            api.OK,
		"|- com : proc f() : com { exit k } { block k { f } }":                   api.ErrName,
		"p : com |- com : new p = 0 { p := 1 }; p":                               api.OK,
		"p : com |- com : new p = 0 { p }":                                       api.ErrType,
		"p : com |- com : proc p() : exp [ 1 ] { new x = p { skip } }; p":        api.OK,
		"p : com |- com : proc f(p : exp) : exp [ p ] { p }":                     api.OK,
		"p : com |- com : block p { p }":                                         api.ErrType,
		"p : com |- com : block p { exit p }; p":                                 api.OK,
		"|- com : new k = 0 { block k { k := 1 } }":                              api.ErrType,
		"|- com : block k { new k = 0 { exit k } }":                              api.ErrType,
		"|- com : block k { new k = 0 { k := k }; exit k }":                      api.OK,
		"|- com : block k { proc k() : com { exit k } { k } }":                   api.OK,
		"|- com : block k { proc k() : com { skip } { exit k } }":                api.ErrType,
		"|- com : block k { proc f(k : com) : com { exit k } { f({ exit k }) }}": api.ErrType,
		"|- com : new x = 0 { proc f(x : com) : com { x } { x := 1 } }":          api.OK,
		"|- com : new x = 0 { proc f(x : val) : com { x := x } { x := 1 } }":     api.OK,
	} {
		wantRead(t, text, want)
	}
}

// P1.3: what fits what binds a name.
func TestTypes(t *testing.T) {
	for text, want := range map[string]api.Errno{
		"p : com |- exp : p":                                      api.ErrType,
		"p : exp |- com : p":                                      api.ErrType,
		"p : exp |- com : p := 1":                                 api.ErrType,
		"p : com |- com : p := 1":                                 api.ErrType,
		"p : com |- com : exit p":                                 api.ErrType,
		"p : com |- com : p(1)":                                   api.ErrType,
		"p : exp |- exp : p({ skip })":                            api.ErrType,
		"f(com) : com |- com : f":                                 api.ErrType,
		"f(com) : com |- com : f(1)":                              api.ErrType,
		"f(com) : com |- com : f(stop)":                           api.ErrType,
		"f(com) : com |- com : f({ stop })":                       api.OK,
		"f(exp) : com |- com : f(stop)":                           api.OK,
		"f(exp) : com |- com : f({ stop })":                       api.ErrType,
		"f(val) : com |- com : f({ stop })":                       api.ErrType,
		"f(val) : com |- com : f(1)":                              api.OK,
		"f(val) : com |- exp : f(1)":                              api.ErrType,
		"f(val) : exp |- exp : f(1, 2)":                           api.ErrType,
		"f(val, com) : exp |- exp : f(1)":                         api.ErrType,
		"f(val, com) : exp |- exp : f({ skip }, 1)":               api.ErrType,
		"f(val, com) : exp |- exp : f(1, { skip })":               api.OK,
		"|- com : new x = 0 { x }":                                api.ErrType,
		"|- com : new x = 0 { x(1) }":                             api.ErrType,
		"|- exp : new x = 0 [ x(1) ]":                             api.ErrType,
		"|- com : new x = 0 { exit x }":                           api.ErrType,
		"|- com : new x = 0 { x := x({ skip }) }":                 api.ErrType,
		"|- exp : new x = 0 [ x + x ]":                            api.OK,
		"|- com : block k { k }":                                  api.ErrType,
		"|- com : block k { k := 1 }":                             api.ErrType,
		"|- com : block k { new x = k { skip } }":                 api.ErrType,
		"|- com : block k { k({ skip }) }":                        api.ErrType,
		"|- com : block k { new x = exit k { skip }; exit k }":    api.OK,
		"|- com : proc f() : com { skip } { f := 1 }":             api.ErrType,
		"|- com : proc f() : com { skip } { exit f }":             api.ErrType,
		"|- com : proc f() : exp [ 1 ] { f }":                     api.ErrType,
		"|- exp : proc f() : exp [ 1 ] [ f ]":                     api.OK,
		"|- exp : proc f() : com { skip } [ f ]":                  api.ErrType,
		"|- com : proc f(a : val) : com { a } { f(1) }":           api.ErrType,
		"|- com : proc f(a : val) : com { skip } { f({ skip }) }": api.ErrType,
		"|- com : proc f(a : exp) : com { a } { skip }":           api.ErrType,
		"|- com : proc f(a : exp) : com { a := 1 } { skip }":      api.ErrType,
		"|- exp : proc f(a : exp) : exp [ a ] [ f(1) ]":           api.OK,
		"|- exp : proc f(a : exp) : exp [ a(1) ] [ f(1) ]":        api.ErrType,
		"|- com : proc f(a : com) : com { a({ skip }) } { skip }": api.ErrType,
		"|- com : proc f(a : com) : com { exit a } { skip }":      api.ErrType,
		"|- com : proc f(a : com) : com { skip } { f }":           api.ErrType,
	} {
		wantRead(t, text, want)
	}
}

// P1.5: which of several errors comes first.
func TestErrorOrder(t *testing.T) {
	full := row(301, "skip")
	for text, want := range map[string]api.Errno{
		"|- com : x := 1; p; ;":                             api.ErrForm,
		"p : com |- com : p({ q })":                         api.ErrType,
		"p : com |- com : p({ q }); p := 1":                 api.ErrType,
		"p : com |- com : p := q":                           api.ErrType,
		"p : com |- com : q := p":                           api.ErrName,
		"p : com |- com : q; p := 1":                        api.ErrName,
		"p : com |- com : p := 1; q":                        api.ErrType,
		"f(com) : com |- com : f({ q })":                    api.ErrName,
		"f(com, val) : com |- com : f({ f }, q)":            api.ErrType,
		"f(com, val) : com |- com : f({ skip; q }, f(1))":   api.ErrName,
		"|- com : q({ new x = 0 { x } })":                   api.ErrName,
		"|- com : if q { new x = 0 { x } } { skip }":        api.ErrName,
		"|- com : new x = 0 { while x { x } }; q":           api.ErrType,
		"|- com : proc f() : com { new x = 0 { x } } { q }": api.ErrType,
		"|- com : proc f() : com { q } { new x = 0 { x } }": api.ErrName,
		"p : com |- exp : p + q":                            api.ErrType,
		"p : com |- exp : q + p":                            api.ErrName,
		"|- com : " + full:                                  api.ErrFull,
		"|- com : " + full + "; q":                          api.ErrName,
		"|- com : " + full + "; new x = 0 { x }":            api.ErrType,
		"|- com : " + full + "; 1":                          api.ErrForm,
		"|- com : " + nested(60, "q"):                       api.ErrName,
		"|- com : " + nested(60, "k"):                       api.ErrType,
		"|- com : q" + strings.Repeat(" ", api.MaxText):     api.ErrForm,
	} {
		wantRead(t, text, want)
	}
}

// P1.4: nodes and levels, each at the last number that is allowed and at the first one that is not.
func TestLimits(t *testing.T) {
	x := "|- com : new x = 0 { "
	for text, want := range map[string]api.Errno{
		"|- com : " + row(300, "skip"):                                            api.OK, // 599
		x + row(298, "skip") + "; x := 1 }":                                       api.OK, // 2 + 298 Seq + 298 + 2
		x + row(297, "skip") + "; x := 1; x := 1 }":                               api.ErrFull,
		"|- com : " + row(301, "skip"):                                            api.ErrFull,
		"|- com : " + nested(59, "skip"):                                          api.OK,
		"|- com : " + nested(60, "skip"):                                          api.ErrFull,
		"|- com : " + nested(58, row(20, "skip")):                                 api.OK,
		"|- com : " + nested(59, "skip; skip"):                                    api.ErrFull,
		"|- com : " + nested(57, "skip; block j { skip }"):                        api.OK,
		"|- com : " + nested(57, "block j { skip }; skip"):                        api.OK,
		"|- com : " + nested(58, "block j { skip }; skip"):                        api.ErrFull,
		"|- exp : 1" + strings.Repeat(" + 1", 59):                                 api.OK, // the first 1 at level 60
		"|- exp : 1" + strings.Repeat(" + 1", 60):                                 api.ErrFull,
		"|- exp : " + strings.Repeat("1 + (", 59) + "1" + strings.Repeat(")", 59): api.OK,
		"|- exp : " + strings.Repeat("1 + (", 60) + "1" + strings.Repeat(")", 60): api.ErrFull,
	} {
		wantRead(t, text, want)
	}
	if n := len(mustRead(t, x+row(298, "skip")+"; x := 1 }").Nodes()); n != api.MaxNodes {
		t.Errorf("%d nodes; want %d", n, api.MaxNodes)
	}
}
