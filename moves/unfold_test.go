package moves_test

import (
	"strings"
	"testing"

	"doppelganger/api"
	"doppelganger/moves"
)

// P4.4: a procedure's calls are its body.
func TestProcedures(t *testing.T) {
	wantSame(t, "p : com |- com : p; p",
		"p : com |- com : proc f() : com { p } { f; f }",
		"p : com |- com : proc f() : com { p; p } { f }",
		"p : com |- com : proc f() : com { p } { proc g() : com { f; f } { g } }",
		"p : com |- com : proc f() : com { fault } { p; p }",
		"p : com |- com : proc f(a : com) : com { a; a } { f({ p }) }",
		"p : com |- com : proc f(a : com, b : com) : com { b; b } { f({ fault }, { p }) }",
		"p : com |- com : proc f(a : com) : com { proc g() : com { a } { g; g } } { f({ p }) }",
		"p : com |- com : proc f(a : com) : com { proc g(b : com) : com { a; b } { g({ a }) } } { f({ p }) }",
		"p : com |- com : proc f(a : com) : com { a; p } { proc g(b : com) : com { f({ b }) } { g({ proc h() : com { p } { h } }) } }",
		"p : com |- com : proc p() : com { p } { p; p }",
		"p : com |- com : proc f(p : com) : com { p; p } { f({ p }) }")
	wantSame(t, "f(com) : com, x : exp |- exp : do { f({ f({ skip }) }) } [ x + x ]",
		"f(com) : com, x : exp |- exp : proc g(a : com, b : exp) : exp [ do { f({ a }) } [ b + b ] ] [ g({ f({ skip }) }, x) ]",
		"f(com) : com, x : exp |- exp : proc y() : exp [ x ] [ proc g(a : com) : com { f({ a }) } [ do { g({ g({ skip }) }) } [ y + y ] ] ]")
}

// P4.4: parameters by name are the arguments, each time anew; those by value are variables.
func TestParameters(t *testing.T) {
	wantSame(t, "x : exp |- exp : x + x", "x : exp |- exp : proc f(a : exp) : exp [ a + a ] [ f(x) ]")
	wantSame(t, "x : exp |- exp : new y = x [ y + y ]", "x : exp |- exp : proc f(a : val) : exp [ a + a ] [ f(x) ]", "x : exp |- exp : x * 2")
	wantSame(t, "x : exp |- exp : x * 0 + 1", "x : exp |- exp : proc f(a : val) : exp [ 1 ] [ f(x) ]")
	wantSame(t, "x : exp |- exp : 1", "x : exp |- exp : proc f(a : exp) : exp [ 1 ] [ f(x) ]")
	wantSame(t, "x : exp |- exp : new n = 0 [ do { n := n + x } [ n ] - do { n := n + x } [ n ] ]",
		"x : exp |- exp : new n = 0 [ proc f(a : exp) : exp [ a - a ] [ f(do { n := n + x } [ n ]) ] ]")
	wantSame(t, "x : exp, y : exp, z : exp |- exp : new a = x [ new b = z [ do { a := a + b } [ a * b + y + y ] ] ]",
		"x : exp, y : exp, z : exp |- exp : proc f(a : val, c : exp, b : val) : exp [ do { a := a + b } [ a * b + c + c ] ] [ f(x, y, z) ]")
	wantSame(t, "p : com |- com : p", "p : com |- com : proc f(a : val) : com { a := a + 1; if a { fault } { p } } { f(3) }")
	wantSame(t, "p : com, x : exp |- com : new v = x { p; v := v + 1; if v == 2 { fault } { skip } }; new v = 1 { p; fault }",
		"p : com, x : exp |- com : proc f(v : val) : com { p; v := v + 1; if v == 2 { fault } { skip } } { f(x); f(1) }")
}

// P4.4: names are bound as they were where they stood.
func TestNamesInPlace(t *testing.T) {
	wantSame(t, "x : exp |- exp : new y = x [ y + 3 ]",
		"x : exp |- exp : new y = x [ proc f(a : exp) : exp [ new y = 3 [ a + y ] ] [ f(y) ] ]",
		"x : exp |- exp : new y = x [ proc f(y : exp) : exp [ new z = 3 [ y + z ] ] [ f(y) ] ]",
		"x : exp |- exp : new y = x [ proc f() : exp [ y ] [ new y = 3 [ f + y ] ] ]",
		"x : exp |- exp : new y = x [ proc f(y : val) : exp [ y ] [ f(y) + f(3) ] ]",
		"x : exp |- exp : new y = x [ proc f(y : val, a : exp) : exp [ y + a ] [ f(3, y) ] ]",
		"x : exp |- exp : new y = x [ proc f(y : val, z : val) : exp [ y + z ] [ f(3, y) ] ]")
	wantSame(t, "p : com, q : com |- com : p; q",
		"p : com, q : com |- com : proc f() : com { p } { proc g() : com { f } { proc f() : com { q } { g; f } } }",
		"p : com, q : com |- com : proc f(q : com) : com { p; q } { f({ q }) }",
		"p : com, q : com |- com : proc f(a : com) : com { proc p() : com { fault } { a } } { f({ p }); q }",
		"p : com, q : com |- com : proc f() : com { p } { proc p() : com { q } { f; p } }")
}

// P4.4: an exit leaves the block to which its label was bound where it stood.
func TestLabelsInPlace(t *testing.T) {
	wantSame(t, "p : com |- com : p",
		"p : com |- com : block k { p; exit k; fault }",
		"p : com |- com : block k { proc f(a : com) : com { block k { a; fault }; fault } { f({ p; exit k }) } }",
		"p : com |- com : block k { proc f() : com { exit k } { p; block k { f }; fault } }",
		"p : com |- com : proc f(a : com) : com { block k { a; exit k } } { f({ p }) }",
		"p : com |- com : block k { proc f(a : exp) : com { if a { fault } { fault } } { p; f(1 + exit k) } }",
		"p : com |- com : block k { proc f(v : val) : com { fault } { p; f(exit k) } }",
		"p : com |- com : proc f(a : com) : com { block k { a; fault } } { block k { f({ f({ exit k }); fault }); fault }; p }")
	wantSame(t, "f(com) : com |- com : block k { f({ exit k }) }; block k { f({ exit k }) }",
		"f(com) : com |- com : proc g() : com { block k { f({ exit k }) } } { g; g }",
		"f(com) : com |- com : proc g(a : com) : com { block k { f({ a }) } } { block l { g({ exit l }) }; block l { g({ exit l }) } }")
}

// doubling is a term in which a procedure is called so that its body stands for its argument 2 to the power of count times within itself.
func doubling(count int, head, body, last string) string {
	name := func(i int) string { return "f" + string(rune('a'+i/26)) + string(rune('a'+i%26)) }
	text := "proc " + name(0) + head + " : com { " + body + " } { "
	for i := range count {
		text += "proc " + name(i+1) + head + " : com { " + name(i) + "({ " + name(i) + "({ x }) }) } { "
	}
	return text + name(count) + "({ " + last + " })" + strings.Repeat(" }", count+1)
}

// P4.4, P1: a term that is short may be that of more calls than anyone could make one by one.
func TestCallsWithoutNodes(t *testing.T) {
	wantSame(t, "p : com |- com : p",
		"p : com |- com : "+doubling(50, "(x : com)", "x", "p"),
		"p : com |- com : "+doubling(50, "(x : com)", "proc g() : com { x } { g }", "p"),
		"p : com |- com : "+doubling(45, "(x : com)", "proc g(a : com, b : com) : com { b } { g({ fault }, { g({ stop }, { x }) }) }", "p"),
		"p : com |- com : proc out(y : com) : com { "+doubling(40, "(x : com)", "y", "fault")+" } { out({ p }) }",
		"p : com |- com : "+doubling(50, "(x : com)", "p", "fault"))
	wantSame(t, "f(com) : com |- com : f({ skip })",
		"f(com) : com |- com : f({ "+doubling(50, "(x : com)", "x", "skip")+" })",
		"f(com) : com |- com : proc g(x : com) : com { f({ x }) } { g({ "+doubling(45, "(x : com)", "x", "skip")+" }) }",
		"f(com) : com |- com : proc g(x : com) : com { "+doubling(45, "(x : com)", "x", "f({ x })")+" } { g({ skip }) }")
	wantSame(t, "|- exp : new v = 1 [ v ]", "|- exp : new v = 1 [ do { "+doubling(50, "(x : com)", "x", "skip")+" } [ v ] ]")
	wantSame(t, "p : com |- com : p; p; p; p", "p : com |- com : "+doubling(2, "(x : com)", "p; x", "skip"))
	wantFull(t, "p : com |- com : "+doubling(50, "(x : com)", "p; x", "skip"), "", "0 3")
	wantFull(t, "p : com |- com : "+doubling(50, "(x : com)", "if 1 { p } { x }", "skip"), "", "0 3")
	wantFull(t, "|- com : stop; "+doubling(50, "(x : com)", "block k { x }", "skip"), "", "0 1")
}

// P4.4, P1: thousands of levels.
func TestDeepTerms(t *testing.T) {
	wantSame(t, "p : com |- com : p",
		"p : com |- com : "+doubling(13, "(x : com)", "block k { x }", "p"),
		"p : com |- com : "+doubling(12, "(x : com)", "new v = 1 { x }", "p"),
		"p : com |- com : proc g(v : val, x : com) : com { x } { "+doubling(12, "(x : com)", "g(3, { x })", "p")+" }",
		"p : com |- com : block out { "+doubling(13, "(x : com)", "block k { x }", "p; exit out")+" }")
}

// sized is a term of the type com whose unfolded term has some nodes, at least 5.
func sized(nodes int) string {
	const hundred, many = 99, 1999 // a, b
	var steps []string
	add := func(step string, size int) {
		steps = append(steps, step)
		nodes -= size
		if len(steps) > 1 {
			nodes-- // the Seq
		}
	}
	if nodes%2 == 0 {
		add("while 0 { skip }", 3)
		add("block k { skip }", 2)
	}
	for nodes > many+1 {
		add("b", many)
	}
	for nodes > hundred+1 {
		add("a", hundred)
	}
	for nodes > 0 {
		add("skip", 1)
	}
	fifty, twenty := "skip"+strings.Repeat("; skip", 49), "a"+strings.Repeat("; a", 19)
	return "proc a() : com { " + fifty + " } { proc b() : com { " + twenty + " } { " + strings.Join(steps, "; ") + " } }"
}

// P4.7, P4.8: the unfolded term has MaxInner nodes, or one more, run or not.
func TestNodes(t *testing.T) {
	for _, frame := range []struct {
		before, after string
		nodes         int
	}{
		{"", "", 0},
		{"stop; ", "", 2},
		{"", "; p", 2},
		{"f({ ", " }, 1)", 2},
		{"f({ skip }, do { ", " } [ 1 ])", 4},
		{"if 1 { p } { ", " }", 3},
		{"proc g(x : com) : com { x; x } { g({ p }); ", " }", 4},
		{"proc g(x : com, v : val) : com { x } { g({ ", " }, 2) }", 2},
		{"proc g(x : com) : com { block k { while 1 { exit k; x } } } { g({ ", " }) }", 5},
		{"proc g(x : com) : com { p } { g({ fault }); ", " }", 2},
	} {
		for _, more := range []int{0, 1} {
			text := "f(com, val) : com, p : com |- com : " + frame.before + sized(api.MaxInner-frame.nodes+more) + frame.after
			if more == 0 {
				mustPlays(t, text)
				wantPlay(t, mustRead(t, text), nil, false)
			} else {
				wantFull(t, text, "", "0", "0 1", "0 3")
			}
		}
	}
}

// P4.4: what stands nowhere in the unfolded term does not count.
func TestNodesThatDoNotStand(t *testing.T) {
	big := doubling(40, "(x : com)", "p; x", "p")
	wantSame(t, "p : com |- com : p",
		"p : com |- com : proc f() : com { "+big+" } { p }",
		"p : com |- com : proc f(a : com) : com { p } { f({ "+big+" }) }",
		"p : com |- com : proc f(a : com) : com { p } { proc g(a : com, b : com) : com { b } { f({ g({ p }, { "+big+" }) }) } }",
		"p : com |- com : proc f(a : com, b : com) : com { b } { f({ "+big+" }, { p }) }")
	p := mustRead(t, "p : com |- com : if 0 { "+big+" } { p }")
	if _, err := moves.Plays(p); err != api.ErrFull {
		t.Errorf("a part that is never run: error %d; want ErrFull", err)
	}
}
