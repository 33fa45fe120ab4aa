package play_test

import (
	"fmt"
	"testing"

	"doppelganger/api"
)

// P2.1: every operation of all numbers.
func TestOperations(t *testing.T) {
	truth := map[bool]int{true: 1}
	for a := range api.Width {
		for b := range api.Width {
			for mark, want := range map[string]int{
				"+": (a + b) % api.Width, "-": (a + api.Width - b) % api.Width, "*": a * b % api.Width,
				"==": truth[a == b], "<": truth[a < b],
			} {
				wantRun(t, fmt.Sprintf("exp : %d %s %d", a, mark, b), done(want, 3))
				wantRun(t, fmt.Sprintf("exp : new x = %d [ new y = %d [ x %s y ] ]", a, b, mark), done(want, 7))
			}
		}
	}
}

// P2.1: operands are run from the left to the right, each once, whatever the operation and their values are.
func TestOperandsInOrder(t *testing.T) {
	for _, mark := range []string{"+", "-", "*", "==", "<"} {
		// The left one is run first: then x is 1, and the right one sees it.
		wantRun(t, "exp : new x = 0 [ new y = 0 [ do { y := do { x := 1 } [ 0 ] "+mark+" do { x := x * 2 } [ 0 ] } [ x ] ] ]",
			done(2, 18))
	}
	wantRuns(t, []check{
		{"exp : new n = 0 [ n - do { n := n + 1 } [ n ] ]", done(3, 10)},
		{"exp : new n = 0 [ do { n := n + 1 } [ n ] - n ]", done(0, 10)},
		{"exp : new n = 2 [ n < do { n := 3 } [ n ] ]", done(1, 8)},
		{"exp : new n = 2 [ do { n := 3 } [ n ] < n ]", done(0, 8)},
		{"exp : new n = 1 [ n * do { n := 3 } [ n ] + n ]", done(2, 10)}, // 1 * 3 + 3
		{"exp : fault + stop", faulted(2)},
		{"exp : stop + fault", never},
		{"exp : 0 * fault", faulted(3)},
		{"exp : 0 * stop", never},
	})
}

// P2.1: only the chosen part of an If is run; every number but 0 is true.
func TestChoices(t *testing.T) {
	wantRuns(t, []check{
		{"com : if 0 { fault } { skip }", done(0, 3)},
		{"com : if 0 { skip } { fault }", faulted(3)},
		{"com : if 1 { skip } { stop }", done(0, 3)},
		{"com : if 2 { skip } { stop }", done(0, 3)},
		{"com : if 3 { skip } { stop }", done(0, 3)},
		{"exp : if 0 [ fault ] [ 2 ]", done(2, 3)},
		{"exp : if 3 [ 3 ] [ fault ]", done(3, 3)},
		{"exp : new x = 1 [ if do { x := x + 1 } [ x ] [ x ] [ x * 2 ] ]", done(2, 10)},
		{"com : if fault { skip } { skip }", faulted(2)},
		{"com : if stop { skip } { skip }", never},
	})
}

// P2.1: rows, loops, Do, and assignments.
func TestCommands(t *testing.T) {
	wantRuns(t, []check{
		{"com : skip; skip; skip; skip", done(0, 7)},
		{"com : skip; stop; fault", never},
		{"com : skip; fault; stop", faulted(4)},
		{"com : while 0 { fault }", done(0, 2)},
		{"com : new x = 1 { while x { x := 0 } }", done(0, 7)},
		{"com : new x = 2 { while x { x := x + 1 } }", done(0, 14)}, // 2 and 3 are true
		{"exp : do { skip } [ 2 ]", done(2, 3)},
		{"exp : new x = 1 [ do { x := x - 2 } [ x ] ]", done(3, 8)},
		{"exp : new x = 1 [ do { x := do { x := 3 } [ 2 ] } [ x ] ]", done(2, 9)},
		{"exp : new x = 1 [ do { x := x + do { x := 3 } [ 1 ] } [ x ] ]", done(2, 11)},
		{"com : new x = 0 { x := fault }", faulted(4)},
		{"com : new x = 0 { while fault { skip } }", faulted(4)},
		{"exp : 3", done(3, 1)},
		{"exp : stop", never},
		{"exp : fault", faulted(1)},
		{"com : fault", faulted(1)},
	})
}

// P2.1: the expression of a New is run first, outside of its block; each New has a new variable, which is forgotten behind its block.
func TestVariables(t *testing.T) {
	wantRuns(t, []check{
		{"exp : new x = 2 [ new x = x + 1 [ x ] ]", done(3, 7)},
		{"exp : new x = 2 [ do { new x = 1 { x := 0 } } [ x ] ]", done(2, 8)},
		{"exp : new x = 2 [ new y = do { x := x + 1 } [ 1 ] [ x + y ] ]", done(0, 12)},
		{"exp : new x = 1 [ (new x = 2 [ do { x := 3 } [ x ] ]) + x ]", done(0, 10)},
		{"exp : new x = fault [ 1 ]", faulted(2)},
		{"com : new x = stop { skip }", never},
		// The block is begun three times, each time with a new y.
		{"exp : new n = 0 [ new s = 0 [ do { while n < 3 { n := n + 1; new y = 0 { y := y + n; s := y } } } [ s ] ] ]", done(3, 61)},
		// Two blocks one behind the other, and a variable ahead of both.
		{"exp : new a = 1 [ do { new b = 2 { skip }; new c = 3 { skip } } [ a ] ]", done(1, 11)},
	})
}

// P2.2: a procedure is run where it is called, with what is bound where it stands.
func TestProcedures(t *testing.T) {
	wantRuns(t, []check{
		{"com : proc f() : com { fault } { skip }", done(0, 2)},
		{"com : proc f() : com { fault } { f }", faulted(3)},
		{"com : proc f() : com { stop } { f }", never},
		{"exp : proc f() : exp [ 2 ] [ f + f ]", done(0, 6)},
		// The body sees the outer x, not the one where it is called.
		{"exp : new x = 1 [ proc f() : exp [ x ] [ new x = 2 [ f ] ] ]", done(1, 7)},
		{"exp : new x = 1 [ proc f() : com { x := x + 1 } [ do { new x = 0 { f; f } } [ x ] ] ]", done(3, 18)},
		// A procedure in a procedure of the same name: the body sees the outer one.
		{"exp : proc f() : exp [ 1 ] [ proc f() : exp [ f + 1 ] [ f ] ]", done(2, 7)},
		{"exp : proc f(f : exp) : exp [ f + 1 ] [ f(f(1)) ]", done(3, 10)},
		// The procedure of a Proc that is begun twice keeps the variable of its own beginning.
		{"exp : new n = 1 [ do { while n < 3 { new y = n { proc f() : com { n := y + 1 } { new y = 0 { f } } } } } [ n ] ]", done(3, 34)},
	})
}

// P2.2: arguments by name are run at each call of the parameter, where they stand, on the variables as they are now.
func TestArgumentsByName(t *testing.T) {
	wantRuns(t, []check{
		{"com : proc f(x : com) : com { skip } { f({ fault }) }", done(0, 3)},
		{"com : proc f(x : exp) : com { skip } { f(stop) }", done(0, 3)},
		{"com : proc f(x : com) : com { x } { f({ fault }) }", faulted(4)},
		{"exp : proc f(x : exp) : exp [ if x [ x ] [ 3 ] ] [ f(2) ]", done(2, 7)},
		// The variable is as it is when the parameter is called.
		{"exp : new n = 0 [ proc f(x : exp) : exp [ do { n := 2 } [ x ] ] [ f(n) ] ]", done(2, 9)},
		{"exp : new n = 1 [ proc f(x : exp) : exp [ x + do { n := 2 } [ x ] ] [ f(n) ] ]", done(3, 12)},
		// What an argument sets is set where it stands, also if a variable of the same name stands between.
		{"exp : new y = 1 [ proc f(x : com) : com { new y = 0 { x; y := 0 } } [ do { f({ y := y + 1 }) } [ y ] ] ]", done(2, 16)},
		// Variables and parameters by value of the body are not seen by the argument.
		{"exp : new y = 1 [ proc f(y : val, x : exp) : exp [ x ] [ f(3, y) ] ]", done(1, 7)},
		{"exp : new y = 1 [ proc f(x : exp, y : val) : exp [ x + y ] [ f(y, 2) ] ]", done(3, 9)},
		// An argument that is handed on is run where it stood first.
		{"exp : new n = 2 [ proc g(x : exp) : exp [ new n = 0 [ x ] ] [ proc f(x : exp) : exp [ new n = 1 [ g(x) ] ] [ f(n) ] ] ]", done(2, 13)},
		// A procedure is called within its own argument.
		{"exp : proc f(x : exp) : exp [ x + 1 ] [ f(f(f(0))) ]", done(3, 14)},
		// What is bound where the argument stands, as it was when this call was begun.
		{"exp : new s = 0 [ new n = 0 [ proc f(x : com) : com { new m = 3 { x } } [ do { while n < 2 { n := n + 1; new m = n { f({ s := s + m }) } } } [ s ] ] ] ]", done(3, 47)},
	})
}

// P2.2: arguments by value are run once, from the left to the right, ahead of the body, whether they are used or not.
func TestArgumentsByValue(t *testing.T) {
	wantRuns(t, []check{
		{"com : proc f(x : val) : com { skip } { f(fault) }", faulted(3)},
		{"com : proc f(x : val) : com { skip } { f(stop) }", never},
		{"com : proc f(x : val) : com { fault } { f(stop) }", never},
		{"com : proc f(x : val, y : val) : com { skip } { f(fault, stop) }", faulted(3)},
		{"com : proc f(x : val, y : val) : com { skip } { f(stop, fault) }", never},
		{"com : proc f(x : val, c : com, y : val) : com { c } { f(1, { fault }, stop) }", never},
		{"exp : proc f(x : val, y : val, z : val) : exp [ x * 2 + y - z ] [ f(1, 3, 0) ]", done(1, 12)},
		{"exp : new n = 0 [ proc f(x : val, y : val) : exp [ x - y ] [ f(do { n := n + 1 } [ n ], do { n := n * 3 } [ n ]) ] ]", done(2, 19)},
		// The parameter is a variable of its own, new at each call.
		{"exp : new n = 1 [ proc f(x : val) : exp [ do { x := x + 1; n := n + 2 } [ x ] ] [ f(n) * n ] ]", done(2, 18)},
		{"exp : proc f(x : val) : exp [ do { x := x + 1 } [ x ] ] [ f(1) + f(0) ]", done(3, 18)},
		{"exp : new x = 3 [ proc f(x : val) : exp [ do { x := 0 } [ x ] ] [ f(x) + x ] ]", done(3, 11)},
		// The arguments do not see the parameters.
		{"exp : new x = 3 [ proc f(x : val, y : val) : exp [ y ] [ f(1, x) ] ]", done(3, 7)},
		// A parameter by value that an argument in the body sets.
		{"exp : proc g(c : com) : com { c; c } [ proc f(x : val) : exp [ do { g({ x := x + 1 }) } [ x ] ] [ f(1) ] ]", done(3, 18)},
	})
}

// P2.3: an Exit leaves the run of the Block in which what is bound there was bound.
func TestExits(t *testing.T) {
	wantRuns(t, []check{
		{"com : block k { exit k }", done(0, 2)},
		{"com : block k { exit k }; fault", faulted(4)},
		{"com : block a { block b { exit a }; fault }", done(0, 4)},
		{"com : block a { block b { exit b }; fault }", faulted(5)},
		{"com : block a { block a { exit a }; fault }", faulted(5)},
		{"com : block k { while exit k { skip } }; skip", done(0, 5)},
		{"com : new x = 0 { block k { x := exit k } }", done(0, 5)},
		{"com : block k { new x = exit k { fault } }", done(0, 3)},
		{"com : block k { if exit k { fault } { fault } }", done(0, 3)},
		{"com : new x = 0 { block k { x := 1 + exit k * fault } }", done(0, 8)},
		// What was set ahead of it stays; the variables that were new in it are forgotten.
		{"exp : new x = 1 [ do { block k { new y = 2 { x := y; exit k } }; new z = 3 { skip } } [ x ] ]", done(2, 15)},
		// Out of a body, and out of an argument by value.
		{"com : block k { proc f() : com { exit k; fault } { f; fault } }", done(0, 6)},
		{"com : proc f(x : val) : com { fault } { block k { f(exit k) } }", done(0, 4)},
		{"com : block k { proc f(x : val, y : val) : com { fault } { f(1, exit k) } }", done(0, 5)},
		// Out of an argument by name, through two procedures, and through blocks of the same label.
		{"com : proc f(x : com) : com { block k { x; fault }; fault } { block k { f({ exit k }) } }", done(0, 8)},
		{"com : proc f(x : com) : com { block k { x; fault }; fault } { proc g(x : com) : com { block k { f({ x }) }; fault } { block k { g({ exit k }) } } }", done(0, 13)},
		// A body leaves the Block where the procedure stands, not the one where it is called.
		{"com : block k { proc f() : com { exit k } { block k { f }; fault } }", done(0, 6)},
		{"exp : new n = 0 [ do { block k { n := 1; exit k; n := 2 } } [ n ] ]", done(1, 10)},
		// The same Block again and again.
		{"exp : new n = 0 [ do { while n < 3 { block k { n := n + 1; exit k; fault } } } [ n ] ]", done(3, 41)},
	})
}

// P2.3: the same Block is run within itself, by a procedure that is called in its own argument.
func TestExitsOfTheSameBlock(t *testing.T) {
	wantRuns(t, []check{
		// No run of it is left.
		{"exp : new n = 0 [ proc f(x : com) : com { block k { x; n := n + 1 } } [ do { f({ f({ skip }) }) } [ n ] ] ]", done(2, 22)},
		// The inner run is left by its own Exit, and the outer one goes on, until its own Exit.
		{"exp : new n = 0 [ proc f(x : com, d : val) : com { block k { if d { x } { skip }; exit k; fault }; n := n + 1 } " +
			"[ do { f({ f({ fault }, 0); n := n * 2 }, 1) } [ n ] ] ]", done(3, 38)},
		// Likewise, but both Exits stand in arguments, which another procedure calls.
		{"exp : new n = 0 [ proc call(c : com) : com { c } [ " +
			"proc f(x : com) : com { block k { call({ x; exit k }); fault }; n := n + 1 } " +
			"[ do { f({ f({ skip }) }) } [ n ] ] ] ]", done(2, 33)},
		// The inner run is left out of its argument, together with the outer one, to a Block around both.
		{"exp : new n = 0 [ proc f(x : com) : com { block k { x; fault } } [ do { block k { f({ f({ n := 1; exit k }) }) } } [ n ] ] ]", done(1, 18)},
	})
}
