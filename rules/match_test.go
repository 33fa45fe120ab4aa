package rules_test

import "testing"

// fit is what comes of a rule at a node of a text; nothing if it does not fit.
type fit struct {
	rule string
	back bool
	text string
	node int
	want string
}

func wantFits(t *testing.T, fits []fit) {
	t.Helper()
	for _, f := range fits {
		wantApply(t, f.rule, f.back, f.text, f.node, f.want)
	}
}

// P6.3: an unknown in several places stands for the same term, node by node.
func TestUnknownInSeveralPlaces(t *testing.T) {
	const both = "if x { p } { p } ~ new v = x { p }"
	const sum = "new v = x [ v + y + y ] ~ new v = x [ v + y + y ]"
	wantFits(t, []fit{
		{both, false, "p : com, x : exp |- com : if x { p } { p }", 0, "new v = x { p }"},
		{both, false, "p : com, q : com, x : exp |- com : if x { p } { q }", 0, ""},
		{both, false, "p : com, x : exp |- com : if x { p; p } { p; p }", 0, "new v = x { p; p }"},
		{both, false, "p : com, x : exp |- com : if x { p; p } { p }", 0, ""},
		{both, false, "p : com, x : exp |- com : if x { p; skip } { skip; p }", 0, ""},
		{both, false, "p : com, x : exp |- com : if x { p } { p; skip }", 0, ""},
		{both, false, "|- com : if 1 { skip } { stop }", 0, ""},
		{both, false, "|- com : if 1 { stop } { fault }", 0, ""},
		{both, false, "|- com : if 1 { new a = 1 { a := 2 } } { new a = 1 { a := 2 } }", 0, "new v = 1 { new a = 1 { a := 2 } }"},
		{both, false, "|- com : if 1 { new a = 1 { a := 2 } } { new b = 1 { b := 2 } }", 0, ""},
		{both, false, "|- com : if 1 { new a = 1 { a := 2 } } { new a = 1 { a := 3 } }", 0, ""},
		{both, false, "|- com : if 1 { new a = 1 { a := 2 } } { new a = 2 { a := 2 } }", 0, ""},
		{both, false, "|- com : if 1 { new a = 1 { new b = a { skip } } } { new a = 1 { new a = a { skip } } }", 0, ""},
		{both, false, "|- com : if 1 { while 1 + 2 { skip } } { while 1 - 2 { skip } }", 0, ""},
		{both, false, "|- com : block k { block j { if 1 { exit k } { exit j } } }", 2, ""},
		{both, false, "|- com : block k { block j { if 1 { exit j } { exit j } } }", 2, "block k { block j { new v = 1 { exit j } } }"},
		{both, false, "|- com : if 1 { proc f(a : com) : com { skip } { skip } } { proc f(a : exp) : com { skip } { skip } }", 0, ""},
		{both, false, "|- com : if 1 { proc f(a : com) : com { skip } { skip } } { proc f(b : com) : com { skip } { skip } }", 0, ""},
		{both, false, "|- com : if 1 { proc f(a : com) : com { skip } { skip } } { proc f() : com { skip } { skip } }", 0, ""},
		{both, false, "|- com : if 1 { proc f() : com { stop } { skip } } { proc f() : exp [ stop ] { skip } }", 0, ""},
		{both, false, "|- com : if 1 { proc f(a : val) : com { skip } { skip } } { proc f(a : val) : com { skip } { skip } }", 0, "new v = 1 { proc f(a : val) : com { skip } { skip } }"},
		{both, false, "f(com) : com |- com : if 1 { f({ skip }) } { f({ stop }) }", 0, ""},
		{both, false, "f(exp) : com |- com : if 1 { f(1) } { f(1) }", 0, "new v = 1 { f(1) }"},
		{both, false, "f(com) : com, g(com) : com |- com : if 1 { f({ skip }) } { g({ skip }) }", 0, ""},
		{both, true, "q : com, y : exp |- com : new v = y { q }", 0, "if y { q } { q }"},
		{sum, false, "|- exp : new v = 3 [ v + 2 + 2 ]", 0, "new v = 3 [ v + 2 + 2 ]"},
		{sum, false, "|- exp : new v = 3 [ v + 2 + 1 ]", 0, ""},
		{"x + x ~ x + x", false, "|- exp : (1 + 2) + (1 + 2)", 0, "(1 + 2) + (1 + 2)"},
		{"x + x ~ x + x", false, "|- exp : 1 + 2 + (1 + 3)", 0, ""},
	})
}

// P6.3: the term has the type of the unknown, and of the rule.
func TestTypesOfUnknowns(t *testing.T) {
	wantFits(t, []fit{
		{"skip; p ~ p", true, "|- exp : 1", 0, ""},
		{"skip; p ~ p", true, "|- exp : do { stop } [ stop ]", 0, ""},
		{"skip; p ~ p", true, "|- exp : do { stop } [ stop ]", 1, "do { skip; stop } [ stop ]"},
		{"skip; p ~ p", true, "|- exp : do { stop } [ stop ]", 2, ""},
		{"0 + x ~ x", true, "|- exp : do { stop } [ stop ]", 0, "0 + do { stop } [ stop ]"},
		{"0 + x ~ x", true, "|- exp : do { stop } [ stop ]", 1, ""},
		{"0 + x ~ x", true, "|- exp : do { stop } [ stop ]", 2, "do { stop } [ 0 + stop ]"},
		{"while 1 { skip } ~ stop", true, "|- exp : stop", 0, ""},
		{"while 1 { skip } ~ stop", true, "|- com : stop", 0, "while 1 { skip }"},
		{"|- exp : do { stop } [ 1 ] ~ |- exp : stop", true, "|- com : stop", 0, ""},
		{"|- exp : do { stop } [ 1 ] ~ |- exp : stop", true, "|- exp : 1 + stop", 2, "1 + do { stop } [ 1 ]"},
		{"skip; p ~ p", true, "f(com, exp) : com |- com : f({ skip }, 1)", 1, "f({ skip; skip }, 1)"},
		{"skip; p ~ p", true, "f(com, exp) : com |- com : f({ skip }, 1)", 2, ""},
		{"x * 1 ~ x", true, "f(com, val) : com |- com : f({ skip }, 1)", 2, "f({ skip }, 1 * 1)"},
		{"x * 1 ~ x", true, "|- com : block k { new a = exit k { exit k } }", 2, "block k { new a = exit k * 1 { exit k } }"},
		{"x * 1 ~ x", true, "|- com : block k { new a = exit k { exit k } }", 3, ""},
		{"skip; p ~ p", true, "|- com : block k { new a = exit k { exit k } }", 2, ""},
		{"skip; p ~ p", true, "|- com : block k { new a = exit k { exit k } }", 3, "block k { new a = exit k { skip; exit k } }"},
		{"do { p } [ x ] ~ do { skip; p } [ 0 + x ]", false, "|- exp : do { fault } [ fault ]", 0, "do { skip; fault } [ 0 + fault ]"},
		{"fault; p ~ fault", false, "|- com : fault; new a = fault { skip }", 0, "fault"},
	})
}

// P6.3: names that are free in a term, and bound around a call of the unknown, in the side that is matched.
func TestNamesBoundInTheSameSide(t *testing.T) {
	const local = "new a = x { p } ~ if x { p } { p }"
	const proc = "proc f(b : com, c : val) : com { p } { f({ skip }, 1) } ~ p"
	const inner = "proc f(b : com) : com { skip } { p } ~ p"
	const label = "block k { p } ~ p"
	wantFits(t, []fit{
		{local, false, "q : com |- com : new a = 1 { q }", 0, "if 1 { q } { q }"},
		{local, false, "|- com : new a = 1 { a := 1 }", 0, ""},
		{local, false, "|- com : new a = 1 { while a { skip } }", 0, ""},
		{local, false, "f(exp) : com |- com : new a = 1 { f(1 + a) }", 0, ""},
		{local, false, "|- com : new a = 1 { new a = 2 { a := 1 } }", 0, "if 1 { new a = 2 { a := 1 } } { new a = 2 { a := 1 } }"},
		{local, false, "|- com : new a = 1 { new a = a { a := 1 } }", 0, ""},
		{local, false, "|- com : new a = 1 { new b = 2 { a := 1 } }", 0, ""},
		{local, false, "|- com : new a = 1 { block a { exit a } }", 0, "if 1 { block a { exit a } } { block a { exit a } }"},
		{local, false, "|- com : new a = 1 { proc a() : com { skip } { a } }", 0, "if 1 { proc a() : com { skip } { a } } { proc a() : com { skip } { a } }"},
		{local, false, "|- com : new a = 1 { proc a() : com { a := 1 } { a } }", 0, ""},
		{local, false, "|- com : new a = 1 { proc f(a : val) : com { a := 1 } { f(1) } }", 0, "if 1 { proc f(a : val) : com { a := 1 } { f(1) } } { proc f(a : val) : com { a := 1 } { f(1) } }"},
		{local, false, "|- com : new a = 1 { proc f(a : val) : com { a := 1 } { f(a) } }", 0, ""},
		// A variable of another name is no a, and a name of the rule that is bound elsewhere does not matter.
		{local, false, "|- com : new b = 1 { skip }", 0, ""},
		{local, false, "|- com : new b = 1 { new a = 1 { b := a } }", 2, ""},
		{local, false, "|- com : new b = 1 { new a = b { b := 1 } }", 2, "new b = 1 { if b { b := 1 } { b := 1 } }"},
		// x stands outside of the block of a.
		{local, false, "|- com : new a = 1 { new a = a { skip } }", 2, "new a = 1 { if a { skip } { skip } }"},
		{local, false, "|- com : new a = 1 { new a = do { a := 2 } [ a ] { skip } }", 2, "new a = 1 { if do { a := 2 } [ a ] { skip } { skip } }"},
		// A procedure in its block, its parameters in its body.
		{proc, false, "q : com |- com : proc f(b : com, c : val) : com { q } { f({ skip }, 1) }", 0, "q"},
		{proc, false, "|- com : proc f(b : com, c : val) : com { b } { f({ skip }, 1) }", 0, ""},
		{proc, false, "|- com : proc f(b : com, c : val) : com { c := 1 } { f({ skip }, 1) }", 0, ""},
		{proc, false, "|- com : proc f(b : com, c : val) : com { new c = c { skip } } { f({ skip }, 1) }", 0, ""},
		{proc, false, "|- com : proc f(b : com, c : val) : com { new c = 1 { skip } } { f({ skip }, 1) }", 0, "new c = 1 { skip }"},
		{inner, false, "q : com |- com : proc f(b : com) : com { skip } { q }", 0, "q"},
		{inner, false, "|- com : proc f(b : com) : com { skip } { f({ skip }) }", 0, ""},
		{inner, false, "|- com : proc b() : com { stop } { proc f(b : com) : com { skip } { b } }", 2, "proc b() : com { stop } { b }"},
		// A label in its block, also behind exit in an expression.
		{label, false, "|- com : block k { exit k }", 0, ""},
		{label, false, "|- com : block k { new a = exit k { skip } }", 0, ""},
		{label, false, "|- com : block k { while 1 { proc f() : com { exit k } { f } } }", 0, ""},
		{label, false, "|- com : block k { block k { exit k } }", 0, "block k { exit k }"},
		{label, false, "|- com : block k { block k { exit k } }", 1, ""},
		{label, false, "|- com : block j { block k { exit j } }", 0, ""},
		{label, false, "|- com : block k { new k = 1 { k := 2 } }", 0, "new k = 1 { k := 2 }"},
	})
}

// P6.3: names that are free in a term, and bound around a call of the unknown in the other side.
func TestNamesBoundInTheOtherSide(t *testing.T) {
	const once = "if x { p } { q } ~ new a = x { if a { p } { q } }"
	const proc = "if x { p } { q } ~ proc f(b : val) : com { if b { p } { q } } { f(x) }"
	const argument = "p; p ~ proc f(c : com) : com { c; c } { f({ p }) }"
	const inner = "skip; p ~ proc f() : com { skip } { f; p }"
	const label = "p ~ block k { p; exit k; fault }"
	const value = "new a = x [ y ] ~ do { new b = x { skip } } [ y ]"
	wantFits(t, []fit{
		{once, false, "p : com |- com : new b = 1 { if b { b := 2 } { p } }", 2, "new b = 1 { new a = b { if a { b := 2 } { p } } }"},
		{once, false, "p : com |- com : new a = 1 { if 2 { a := 2 } { p } }", 2, ""},
		{once, false, "p : com |- com : new a = 1 { if 2 { p } { a := 2 } }", 2, ""},
		{once, false, "p : com |- com : new a = 1 { if a { p } { p } }", 2, "new a = 1 { new a = a { if a { p } { p } } }"},
		{once, false, "a : com |- com : if 1 { a } { skip }", 0, ""},
		{once, false, "|- com : block a { if 1 { exit a } { skip } }", 1, ""},
		{once, false, "|- com : block a { if exit a { skip } { skip } }", 1, "block a { new a = exit a { if a { skip } { skip } } }"},
		{once, true, "|- com : block a { new a = exit a { if a { skip } { skip } } }", 1, "block a { if exit a { skip } { skip } }"},
		{once, true, "|- com : new b = 1 { new a = b { if a { b := 2 } { skip } } }", 2, "new b = 1 { if b { b := 2 } { skip } }"},
		{once, true, "|- com : new b = 1 { new a = b { if a { a := 2 } { skip } } }", 2, ""},
		{proc, false, "|- com : new b = 1 { if b { skip } { stop } }", 2, "new b = 1 { proc f(b : val) : com { if b { skip } { stop } } { f(b) } }"},
		{proc, false, "|- com : new b = 1 { if 1 { b := 1 } { stop } }", 2, ""},
		{proc, false, "|- com : new b = 1 { if 1 { stop } { b := 1 } }", 2, ""},
		{proc, false, "|- com : new f = 1 { if f { skip } { stop } }", 2, ""},
		{proc, false, "|- com : new f = 1 { if 1 { f := 1 } { stop } }", 2, "new f = 1 { proc f(b : val) : com { if b { f := 1 } { stop } } { f(1) } }"},
		{argument, false, "c : com |- com : c; c", 0, "proc f(c : com) : com { c; c } { f({ c }) }"},
		{argument, false, "f : com |- com : f; f", 0, ""},
		{inner, false, "f : com |- com : skip; f", 0, ""},
		{inner, false, "f : com, g : com |- com : skip; g", 0, "proc f() : com { skip } { f; g }"},
		{label, false, "|- com : block k { exit k }", 1, ""},
		{label, false, "|- com : block k { exit k }", 0, "block k { block k { exit k }; exit k; fault }"},
		{label, false, "k : com |- com : k", 0, ""},
		{value, false, "|- exp : new b = 1 [ new a = b [ b ] ]", 2, "new b = 1 [ do { new b = b { skip } } [ b ] ]"},
		{value, false, "|- exp : new b = 1 [ new a = b [ a ] ]", 2, ""},
		{value, true, "|- exp : new a = 1 [ do { new b = a { skip } } [ 2 ] ]", 2, "new a = 1 [ new a = a [ 2 ] ]"},
		{value, true, "|- exp : new a = 1 [ do { new b = a { skip } } [ a ] ]", 2, ""},
	})
}

// P6.3: an unknown that is called at several places, of which some are within a block; what an unknown that is not called stands for does not matter.
func TestNamesBoundAroundSomeCall(t *testing.T) {
	const some = "p; new a = x { p } ~ p; if x { p } { p }"
	const gone = "if 1 { p } { new a = x { q } } ~ p"
	const split = "if x { p } { p } ~ if x { new a = 1 { p } } { block k { p } }"
	wantFits(t, []fit{
		{some, false, "|- com : new b = 1 { b := 2; new a = b { b := 2 } }", 2, "new b = 1 { b := 2; if b { b := 2 } { b := 2 } }"},
		{some, false, "|- com : new a = 1 { a := 2; new a = a { a := 2 } }", 2, ""},
		{some, true, "|- com : new b = 1 { b := 2; if b { b := 2 } { b := 2 } }", 2, "new b = 1 { b := 2; new a = b { b := 2 } }"},
		{some, true, "|- com : new a = 1 { a := 2; if a { a := 2 } { a := 2 } }", 2, ""},
		{gone, false, "|- com : new a = 1 { if 1 { a := 2 } { new a = 1 { skip } } }", 2, "new a = 1 { a := 2 }"},
		{gone, false, "|- com : new a = 1 { if 1 { skip } { new a = 1 { a := 2 } } }", 2, ""},
		{gone, false, "|- com : new a = 1 { if 1 { skip } { new a = a { skip } } }", 2, "new a = 1 { skip }"},
		{split, false, "|- com : new a = 1 { if 1 { a := 2 } { a := 2 } }", 2, ""},
		{split, false, "|- com : block k { if 1 { exit k } { exit k } }", 1, ""},
		{split, false, "|- com : block j { if 1 { exit j } { exit j } }", 1, "block j { if 1 { new a = 1 { exit j } } { block k { exit j } } }"},
	})
}

// P6.3: what a term is bound by outside does not matter, nor that it is called like an unknown.
func TestTermsCalledLikeUnknowns(t *testing.T) {
	wantFits(t, []fit{
		{"if 1 { p } { q } ~ p", false, "p : com, q : com |- com : if 1 { q } { p }", 0, "q"},
		{"p; q ~ p; skip; q", false, "p : com, q : com |- com : q; p", 0, "q; skip; p"},
		{"p; q ~ p; skip; q", false, "p : com, q : com |- com : q; q", 0, "q; skip; q"},
		{"p; q ~ p; skip; q", false, "p(com) : com, q : exp |- com : p({ skip }); new p = q { p := 1 }", 0, "p({ skip }); skip; new p = q { p := 1 }"},
		{"skip; p ~ p", false, "|- com : new p = 1 { skip; p := 2 }", 2, "new p = 1 { p := 2 }"},
		{"skip; p ~ p", false, "|- com : block p { skip; exit p }", 1, "block p { exit p }"},
		{"x + 0 ~ x", false, "|- exp : new x = 1 [ x + 0 ]", 2, "new x = 1 [ x ]"},
		{"x + 0 ~ x", false, "|- exp : proc x(y : exp) : exp [ y + 0 ] [ x(x(1) + 0) + 0 ]", 1, "proc x(y : exp) : exp [ y ] [ x(x(1) + 0) + 0 ]"},
		{"x + 0 ~ x", false, "|- exp : proc x(y : exp) : exp [ y + 0 ] [ x(x(1) + 0) + 0 ]", 4, "proc x(y : exp) : exp [ y + 0 ] [ x(x(1) + 0) ]"},
		{"x + 0 ~ x", false, "|- exp : proc x(y : exp) : exp [ y + 0 ] [ x(x(1) + 0) + 0 ]", 6, "proc x(y : exp) : exp [ y + 0 ] [ x(x(1)) + 0 ]"},
		{"proc q() : com { skip } { p; q } ~ p", false, "q : com |- com : proc q() : com { skip } { q; q }", 0, ""},
		{"proc q() : com { skip } { p; q } ~ p", false, "p : com |- com : proc q() : com { skip } { p; q }", 0, "p"},
	})
}

// P6.1, P6.3: a name of a side that is not called as an unknown is that name.
func TestHiddenUnknowns(t *testing.T) {
	const proc = "proc p() : com { p } { p; p } ~ proc q() : com { skip } { p; p }"
	const param = "proc f(p : com) : com { p } { f({ p }) } ~ p"
	const variable = "new x = x [ x + x ] ~ new y = x [ y * 2 ]"
	wantFits(t, []fit{
		{proc, false, "s : com |- com : proc p() : com { s } { p; p }", 0, "proc q() : com { skip } { s; s }"},
		{proc, false, "s : com |- com : proc p() : com { s } { s; s }", 0, ""},
		{proc, false, "s : com |- com : proc p() : com { s } { p; skip }", 0, ""},
		{proc, false, "s : com |- com : proc r() : com { s } { r; r }", 0, ""},
		{proc, false, "p : com |- com : proc p() : com { p } { p; p }", 0, "proc q() : com { skip } { p; p }"},
		{proc, true, "p : com |- com : proc q() : com { skip } { p; p }", 0, "proc p() : com { p } { p; p }"},
		{proc, true, "q : com |- com : proc q() : com { skip } { q; q }", 0, ""},
		{param, false, "s : com |- com : proc f(p : com) : com { p } { f({ s }) }", 0, "s"},
		{param, false, "s : com |- com : proc f(p : com) : com { s } { f({ s }) }", 0, ""},
		{param, false, "s : com |- com : proc f(r : com) : com { r } { f({ s }) }", 0, ""},
		{param, false, "p : com |- com : proc f(p : com) : com { p } { f({ p }) }", 0, "p"},
		{param, false, "|- com : proc f(p : com) : com { p } { f({ f({ skip }) }) }", 0, ""},
		{param, true, "f : com |- com : f", 0, ""},
		{param, true, "p : com |- com : p", 0, "proc f(p : com) : com { p } { f({ p }) }"},
		{variable, false, "|- exp : new x = 3 [ x + x ]", 0, "new y = 3 [ y * 2 ]"},
		{variable, false, "|- exp : new x = 3 [ x + 3 ]", 0, ""},
		{variable, false, "|- exp : new z = 3 [ z + z ]", 0, ""},
		{variable, true, "|- exp : new x = 1 [ new y = x [ y * 2 ] ]", 2, "new x = 1 [ new x = x [ x + x ] ]"},
	})
}

// P6.3: all else is the same, node by node.
func TestNodesThatAreOther(t *testing.T) {
	const many = "p : com |- com : new a = 1 { while a < 2 { block k { a := a + 1; if a { exit k } { p } } } } ~ p : com |- com : new a = 1 { while a < 2 { block k { a := a + 1; if a { exit k } { p } } } }"
	const heads = "proc f(a : val, b : exp) : exp [ a + b * 0 ] [ f(1, x) ] ~ 1 + x * 0"
	wantFits(t, []fit{
		{many, false, "|- com : new a = 1 { while a < 2 { block k { a := a + 1; if a { exit k } { stop } } } }", 0, "new a = 1 { while a < 2 { block k { a := a + 1; if a { exit k } { stop } } } }"},
		{many, false, "|- com : new b = 1 { while b < 2 { block k { b := b + 1; if b { exit k } { stop } } } }", 0, ""},
		{many, false, "|- com : new a = 1 { while a < 2 { block j { a := a + 1; if a { exit j } { stop } } } }", 0, ""},
		{many, false, "|- com : new a = 2 { while a < 2 { block k { a := a + 1; if a { exit k } { stop } } } }", 0, ""},
		{many, false, "|- com : new a = 1 { while a == 2 { block k { a := a + 1; if a { exit k } { stop } } } }", 0, ""},
		{many, false, "|- com : new a = 1 { while a < 2 { block k { a := a - 1; if a { exit k } { stop } } } }", 0, ""},
		{many, false, "|- com : new a = 1 { while a < 2 { block k { a := 1 + a; if a { exit k } { stop } } } }", 0, ""},
		{many, false, "|- com : new a = 1 { while a < 2 { block k { a := a + 1; if a { stop } { exit k } } } }", 0, ""},
		{many, false, "|- com : new a = 1 { while a < 2 { block k { a := a + 1; skip; if a { exit k } { stop } } } }", 0, ""},
		{many, false, "|- com : new b = 1 { new a = 1 { while a < 2 { block k { b := a + 1; if a { exit k } { stop } } } } }", 2, ""},
		{heads, false, "|- exp : proc f(a : val, b : exp) : exp [ a + b * 0 ] [ f(1, 3) ]", 0, "1 + 3 * 0"},
		{heads, false, "|- exp : proc f(a : val, b : val) : exp [ a + b * 0 ] [ f(1, 3) ]", 0, ""},
		{heads, false, "|- exp : proc f(a : exp, b : exp) : exp [ a + b * 0 ] [ f(1, 3) ]", 0, ""},
		{heads, false, "|- exp : proc f(b : val, a : exp) : exp [ a + b * 0 ] [ f(1, 3) ]", 0, ""},
		{heads, false, "|- exp : proc f(a : val, b : exp, c : exp) : exp [ a + b * 0 ] [ f(1, 3, 3) ]", 0, ""},
		{heads, false, "|- exp : proc g(a : val, b : exp) : exp [ a + b * 0 ] [ g(1, 3) ]", 0, ""},
		{"skip; p ~ p", false, "|- com : stop; skip", 0, ""},
		{"skip; p ~ p", false, "|- com : while 1 { skip }", 0, ""},
		{"1 + 1 ~ 2", false, "|- exp : 1 + 1", 0, "2"},
		{"1 + 1 ~ 2", false, "|- exp : 1 - 1", 0, ""},
		{"1 + 1 ~ 2", false, "|- exp : 1 + 2", 0, ""},
		{"1 + 1 ~ 2", true, "|- exp : 3 * 2", 2, "3 * (1 + 1)"},
	})
}

// P6.3: rows are put together from the left.
func TestRows(t *testing.T) {
	const row = "p : com, q : com, r : com, s : com |- com : p; q; r; s"
	const pair = "u : com, v : com |- com : u; v ~ u : com, v : com |- com : u; skip; v"
	const three = "u : com, v : com, w : com |- com : u; v; w ~ u : com, v : com, w : com |- com : u; v; skip; w"
	wantFits(t, []fit{
		{pair, false, row, 0, "p; q; r; skip; s"},
		{pair, false, row, 1, "p; q; skip; r; s"},
		{pair, false, row, 2, "p; skip; q; r; s"},
		{pair, false, row, 3, ""},
		{three, false, row, 0, "p; q; r; skip; s"},
		{three, false, row, 1, "p; q; skip; r; s"},
		{three, false, row, 2, ""},
		{pair, true, "p : com |- com : p; skip; p", 0, "p; p"},
		{pair, true, "p : com |- com : p; skip; p; p", 0, ""},
		{pair, true, "p : com |- com : p; skip; p; p", 1, "p; p; p"},
		{pair, true, "p : com |- com : p; p; skip; p", 0, "p; p; p"},
		{pair, true, "p : com |- com : p; p; skip; p", 1, ""},
		{"skip; p ~ p", true, row, 0, "skip; p; q; r; s"},
		{"skip; p ~ p", false, "p : com |- com : skip; p; p", 0, ""},
		{"skip; p ~ p", false, "p : com |- com : skip; p; p", 1, "p; p"},
		{"p; skip ~ p", false, "p : com |- com : p; p; skip", 0, "p; p"},
		{"p; skip ~ p", false, "p : com |- com : p; p; skip", 1, ""},
		{"p; p ~ p; skip; p", false, "|- com : skip; stop; skip; stop", 0, ""},
		{"p; p ~ p; skip; p", false, "|- com : stop; stop; stop; stop", 0, ""},
		{"p; p ~ p; skip; p", false, "|- com : stop; stop; stop; stop", 2, "stop; skip; stop; stop; stop"},
	})
}
