package play_test

import "testing"

// The chapter's table of examples.
func TestExamples(t *testing.T) {
	wantRuns(t, []check{
		{"com : skip", done(0, 1)},
		{"com : skip; skip", done(0, 3)},
		{"com : fault; skip", faulted(2)},
		{"exp : 2 + 3 * 3", done(3, 5)},
		{"exp : 1 - 2 == 3", done(1, 5)},
		{"com : while 0 { stop }", done(0, 2)},
		{"com : while 1 { skip }", never},
		{"com : stop", never},
		{"com : new x = 3 { while x { x := x - 1 } }", done(0, 19)},
		{"exp : new x = 1 [ do { x := x + 1; x := x * x } [ x ] ]", done(0, 13)},
		{"com : proc f(x : com) : com { x; x } { f({ skip }) }", done(0, 7)},
		{"exp : new y = 0 [ proc f(x : exp) : exp [ new y = 3 [ x ] ] [ f(y) ] ]", done(0, 8)},
		{"exp : new n = 0 [ proc f(x : exp) : exp [ x + x ] [ f(do { n := n + 1 } [ n ]) ] ]", done(3, 19)},
		{"exp : new n = 0 [ proc f(x : val) : exp [ x + x ] [ f(do { n := n + 1 } [ n ]) ] ]", done(2, 13)},
		{"com : block k { exit k; fault }", done(0, 3)},
		{"com : block k { skip }", done(0, 2)},
		{"exp : new n = 0 [ do { block k { while 1 { n := n + 1; if n == 2 { exit k } { skip } } } } [ n ] ]", done(2, 28)},
		{"com : proc f(x : com) : com { x; fault } { block k { f({ exit k }) } }", done(0, 6)},
		{"com : new x = 0 { while 1 { x := x + 1 } }", never},
	})
}
