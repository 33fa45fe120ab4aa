package play_test

import (
	"testing"

	"doppelganger/api"
)

// P2.4: the steps of each kind of node: itself, and what is run of its kids.
func TestStepsOfEachKind(t *testing.T) {
	wantRuns(t, []check{
		{"com : skip", done(0, 1)},
		{"com : fault", faulted(1)},
		{"com : skip; skip", done(0, 3)},
		{"exp : 1", done(1, 1)},
		{"exp : 1 + 1", done(2, 3)},
		{"exp : 1 - 1", done(0, 3)},
		{"exp : 1 * 1", done(1, 3)},
		{"exp : 1 == 1", done(1, 3)},
		{"exp : 1 < 1", done(0, 3)},
		{"com : if 1 { skip } { skip; skip }", done(0, 3)},
		{"com : if 0 { skip } { skip; skip }", done(0, 5)},
		{"exp : new x = 1 [ x ]", done(1, 3)},
		{"com : new x = 1 { x := 2 }", done(0, 4)},
		{"com : new x = 1 { while x { x := 0 } }", done(0, 7)},
		{"exp : do { skip } [ 1 ]", done(1, 3)},
		{"com : block k { skip }", done(0, 2)},
		{"com : block k { exit k }", done(0, 2)},
		{"exp : do { block k { if exit k { skip } { skip } } } [ 1 ]", done(1, 5)},
		{"com : proc f() : com { skip } { skip }", done(0, 2)},
		{"com : proc f() : com { skip } { f }", done(0, 3)},
		{"com : proc f(x : com) : com { skip } { f({ skip }) }", done(0, 3)},
		{"com : proc f(x : com) : com { x } { f({ skip }) }", done(0, 4)},
		{"com : proc f(x : com) : com { x; x } { f({ skip; skip }) }", done(0, 11)},
		{"com : proc f(x : val) : com { skip } { f(1 + 1) }", done(0, 6)},
		{"exp : proc f(x : val) : exp [ x + x ] [ f(1 + 1) ]", done(0, 8)},
		{"exp : proc f(x : exp) : exp [ x + x ] [ f(1 + 1) ]", done(0, 11)},
	})
}

// P2.5: a program that makes just MaxSteps steps, and one that makes one more.
func TestMostSteps(t *testing.T) {
	const most = api.MaxSteps
	for _, c := range []struct {
		last string
		want outcome // if its steps are the last ones that may be made
	}{
		{"skip", done(0, most)},
		{"fault", faulted(most)},
		{"stop", never},
		{"skip; skip", done(0, most)},
		{"while 0 { skip }", done(0, most)},
		{"while 1 { skip }", never},
		{"if 1 { fault } { skip }", faulted(most)},
		{"if stop { skip } { skip }", never},
		{"new x = 1 { x := 2 }", done(0, most)},
		{"new x = 0 { while 1 { x := x - x } }", never},
		{"block k { exit k }", done(0, most)},
		{"block k { while 1 { exit k } }", done(0, most)},
		{"proc f(x : val) : com { skip } { f(3) }", done(0, most)},
		{"proc f(x : val) : com { fault } { f(3) }", faulted(most)},
	} {
		own := stepsOf(c.last)
		wantRun(t, "com : "+after(most-own, c.last), c.want)
		wantRun(t, "com : "+after(most-own+1, c.last), failed(api.ErrFull))
		wantRun(t, "exp : do { "+after(most-own-2, c.last)+" } [ 3 ]", withValue(c.want, 3))
		wantRun(t, "com : "+after(most, c.last), failed(api.ErrFull))
	}
}

// stepsOf is the number of steps that a command makes by itself, of an endless one those until this is clear.
func stepsOf(last string) int {
	switch last {
	case "stop":
		return 1
	case "if stop { skip } { skip }":
		return 2
	case "while 1 { skip }":
		return 3 // the While, 1, skip; then it is about to ask again
	case "new x = 0 { while 1 { x := x - x } }":
		return 8
	}
	return map[string]int{
		"skip": 1, "fault": 1, "skip; skip": 3, "while 0 { skip }": 2, "if 1 { fault } { skip }": 3,
		"new x = 1 { x := 2 }": 4, "block k { exit k }": 2, "block k { while 1 { exit k } }": 4,
		"proc f(x : val) : com { skip } { f(3) }": 4, "proc f(x : val) : com { fault } { f(3) }": 4,
	}[last]
}

// withValue is what comes of a command with one more step in front and one more behind that gives a value.
func withValue(o outcome, value int) outcome {
	switch o.result {
	case api.Done:
		return done(value, o.steps)
	case api.Faulted:
		return faulted(o.steps - 1)
	}
	return o
}

// counter is a loop that counts with some variables and makes about ten times Width to the power of their number steps.
func counter(count int) string {
	return counting(count, "on := 0")
}

// counting is counter with a command that is run when all variables have counted.
func counting(count int, body string) string {
	names := "abcdefghij"[:count]
	for i := count - 1; i >= 0; i-- {
		v := string(names[i])
		body = v + " := " + v + " + 1; if " + v + " { skip } { " + body + " }"
	}
	text := "new on = 1 { while on { " + body + " } }"
	for _, v := range names {
		text = "new " + string(v) + " = 0 { " + text + " }"
	}
	return text
}

// P2.5, P2.10: a program that ends behind many turns; one that would end later than MaxSteps allows is not told to be endless.
func TestLongLoops(t *testing.T) {
	for count := 1; count <= 5; count++ {
		got := run(t, "com : "+counter(count))
		if got.result != api.Done || got.err != api.OK || got.steps < 1<<(2*count) {
			t.Errorf("a loop with %d variables: %+v", count, got)
		}
	}
	for count := 6; count <= 10; count++ {
		wantRun(t, "com : "+counter(count), failed(api.ErrFull))
	}
	// Without the end they never end, and this is clear after all values of the variables.
	wantRun(t, "com : "+counting(5, "skip"), never)
	wantRun(t, "com : "+counting(8, "skip"), failed(api.ErrFull))
}

// P2.5: Never is told if the variables that are there are as they were at an earlier time, since the same beginning of the While.
func TestEndlessLoops(t *testing.T) {
	wantRuns(t, []check{
		{"com : while 1 { skip }", never},
		{"com : while 2 { skip }; fault", never},
		{"exp : do { while 3 { skip } } [ fault ]", never},
		{"com : new x = 0 { while 1 { x := x + 1 } }", never},
		{"com : new x = 0 { while 1 { x := x + 2; x := x * x } }", never},
		{"com : new x = 0 { while x == 0 { x := 1; x := 0 } }", never},
		{"com : while 1 { new x = 0 { x := x + 1 } }", never},
		{"com : while 1 { block k { exit k } }", never},
		{"com : proc f(x : val) : com { while x { skip } } { f(0); f(1) }", never},
		{"com : proc f(x : exp, c : com) : com { while x { c } } { new n = 1 { f(n, { n := n + 2 }) } }", never},
		{"com : while 1 { while 0 { skip } }", never},
		{"com : while do { while 0 { skip } } [ 1 ] { skip }", never},
		{"com : while stop { skip }", never},
		{"com : while 1 { stop }", never},
		{"com : while 1 { fault }", faulted(3)},
		{"com : new x = 1 { while 1 { if x { x := 0 } { fault } } }", faulted(12)},
	})
}

// P2.5: the same variables at another beginning of the same While, or at another While, do not matter.
func TestLoopsThatBeginAgain(t *testing.T) {
	wantRuns(t, []check{
		{"com : while 0 { skip }; while 0 { skip }", done(0, 5)},
		{"com : proc f() : com { while 0 { skip } } { f; f; f }", done(0, 12)},
		// The same While within itself, with the same variables: the inner argument ends both.
		{"com : new n = 1 { proc f(x : com) : com { while n { x } } { f({ f({ n := 0 }) }) } }", done(0, 15)},
		{"com : new n = 1 { while n { proc f(x : com) : com { while n { x } } { f({ f({ n := 0 }) }) } } }", done(0, 18)},
		// It is left by an Exit, and begun again.
		{"com : proc f(x : com) : com { while 1 { x } } { block k { f({ exit k }) }; block k { f({ exit k }) } }", done(0, 14)},
		// An inner loop that begins again and again, until a variable outside has counted.
		{"com : new n = 2 { while n { while 0 { skip }; n := n - 1 } }", done(0, 20)},
	})
}

// P2.5, P2.10: variables that the While does not see are there, too: the argument counts with one.
func TestHiddenVariablesCount(t *testing.T) {
	wantRuns(t, []check{
		{"com : proc f(x : exp) : com { while x { skip } } { new n = 0 { f(do { n := n + 1 } [ n < 3 ]) } }", done(0, 34)},
		{"com : proc f(c : com) : com { while 1 { c } } { block k { new n = 0 { f({ n := n + 1; if n { skip } { exit k } }) } } }", done(0, 46)},
		// A variable that is hidden by another one of its name.
		{"com : new n = 0 { proc f(x : exp) : com { new n = 1 { while x { skip } } } { f(do { n := n + 1 } [ n < 3 ]) } }", done(0, 36)},
		// A parameter by value.
		{"com : proc g(x : exp) : com { while x { skip } } { proc f(n : val) : com { g(do { n := n + 1 } [ n < 3 ]) } { f(0) } }", done(0, 35)},
		// Variables of calls that are over are there no more.
		{"com : new n = 0 { proc f(v : val) : exp [ do { new w = v { n := n + w } } [ n ] ] { while f(1) < 3 { skip } } }", done(0, 42)},
		{"com : new n = 0 { proc f(v : val) : exp [ do { new w = v { n := n + w } } [ n ] ] { while 1 + f(1) * 0 { skip } } }", never},
		// So are those of blocks that were left.
		{"com : new n = 0 { while 1 { block k { new w = n { exit k } } } }", never},
		{"com : new n = 0 { while 1 { block k { proc f(v : val) : com { exit k } { f(n + 1) } }; n := n + 1 } }", never},
	})
}
