package parts_test

import (
	"slices"
	"strings"
	"testing"

	"doppelganger/api"
	"doppelganger/parts"
)

// P7.5: the pairs of modules that are the same.
func TestRelation(t *testing.T) {
	wantRelation(t, down, up, "0 0", "1 3", "2 2", "3 1")
	wantRelation(t, up, up, "0 0", "1 1", "2 2", "3 3")
	// In the order of the text, not of the names; the first state comes first, and then the second one.
	wantRelation(t, "new z = 1; new a = 3; go: com { z := z + 1 }", "new n = 2; go: com { n := 1 - n }", "03 3", "13 2", "23 3", "33 2")
	wantRelation(t, "new n = 2; go: com { n := 1 - n }", "new z = 1; new a = 3; go: com { z := z + 1 }", "2 13", "2 33", "3 03", "3 23")
	wantRelation(t, "new a = 0; new b = 0; go: com { a := a + 1; b := b - 1 }", "new a = 3; go: com { skip }", "00 3", "13 3", "22 3", "31 3")
	wantRelation(t, "new a = 2; new b = 1; swap: com { new c = a { a := b; b := c } }; get: exp [ a ]", "new a = 2; swap: com { a := 3 - a }; get: exp [ a ]", "12 1", "21 2")
	// States that are met by several rows, and states to which nothing leads.
	wantRelation(t, "new x = 0; a: com { x := 1 }; b: com { x := 2 }; c: com { if x == 3 { fault } { x := 0 } }", "a: com { skip }; b: com { skip }; c: com { skip }", "0 ", "1 ", "2 ")
	wantRelation(t, "new x = 3; a: com { x := 1 }; b: com { x := 1 }", "new x = 0; a: com { x := 2 }; b: com { x := 2 }", "1 2", "3 0")
	// Both come to a state apart from one another only behind the same rows.
	wantRelation(t, "new x = 0; a: com { x := x + 2 }; b: com { skip }", "new y = 0; a: com { skip }; b: com { y := y + 2 }", "0 0", "0 2", "2 0", "2 2")
}

// P7.5: modules without variables.
func TestRelationWithoutVariables(t *testing.T) {
	wantRelation(t, "a: com { skip }", "a: com { skip; skip }", " ")
	wantRelation(t, "a: com { fault }; b: exp [ stop ]", "a: com { fault }; b: exp [ do { stop } [ 1 ] ]", " ")
	wantRelation(t, "a: exp [ 1 ]", "new x = 1; a: exp [ x ]", " 1")
	wantRelation(t, "new x = 1; new y = 2; a: exp [ do { y := 0 } [ x ] ]", "a: exp [ 1 ]", "10 ", "12 ")
}

// P7.5, P7.6: operations that fault, or never end, in some state.
func TestOperationsWithoutEnd(t *testing.T) {
	const once = "new n = 0; go: com { if n { fault } { n := 1 } }"
	wantRelation(t, once, "new n = 3; go: com { n := n - 1; if n == 2 { skip } { fault } }", "0 3", "1 2")
	wantRelation(t, "new n = 0; go: com { n := n + 1; if n == 2 { stop } { skip } }", "new n = 0; go: com { while n == 1 { skip }; n := n + 1 }", "0 0", "1 1")
	wantRelation(t, "new n = 0; go: com { n := 2; fault }; come: exp [ do { n := 3; stop } [ 1 ] ]", "go: com { fault }; come: exp [ stop ]", "0 ")
	wantRelation(t, "new n = 0; go: com { n := n + 1; while n == 3 { n := n } }; come: exp [ if n == 1 [ fault ] [ n ] ]", "new n = 0; go: com { n := n + 1; while n == 3 { skip } }; come: exp [ if n == 1 [ do { n := 3 } [ fault ] ] [ n ] ]", "0 0", "1 1", "2 2")
}

// P7.5, P7.6: expressions that change the state.
func TestExpressionsThatChange(t *testing.T) {
	wantRelation(t, "new x = 0; tick: exp [ do { x := x + 1 } [ x ] ]", "new x = 3; tick: exp [ do { x := x - 1 } [ 3 - x ] ]", "0 3", "1 2", "2 1", "3 0")
	wantRelation(t, "new x = 0; flip: exp [ do { if x { x := 0 } { x := 1 } } [ x ] ]", "new x = 2; flip: exp [ new y = x [ do { x := 0 - x - 1 } [ x == 1 ] ] ]", "0 2", "1 1")
	wantRelation(t, "new x = 0; a: exp [ new client = 2 [ do { x := client } [ client ] ] ]", "a: exp [ 2 ]", "0 ", "2 ")
}

// P7.6: bodies with blocks, exits, procedures and variables of their own, also of the names of the variables. Each of them leaves 2 in x.
func TestBodies(t *testing.T) {
	for _, body := range []string{
		"block k { x := 2; exit k; x := 3 }",
		"block x { exit x }; x := 2",
		"block k { while 1 { x := x + 1; if x == 2 { exit k } { skip } } }",
		"new x = 3 { x := 1 }; x := x + 2",
		"new x = x { x := 3 }; x := 2 - x",
		"new y = x + 2 { x := y; y := 1 }",
		"new client = 2 { x := client }",
		"block client { x := 2; exit client }",
		"proc client(c : com) : com { c; c } { client({ x := x + 1 }) }",
		"proc x(x : val) : exp [ x + 1 ] { new y = x(1) { skip } }; x := 2",
		"proc f(c : com) : com { new x = 3 { c } } { f({ x := x + 2 }) }",
		"proc f(v : val) : com { v := v + 2; x := v } { f(x) }",
		"proc f(e : exp) : exp [ e * e + 1 ] { x := f(do { x := 1 } [ x ]) }",
		"proc f(c : com) : com { c; fault } { block k { f({ x := 2; exit k }) } }",
	} {
		command := "new x = 0; a: com { if x == 2 { skip } { " + body + " } }"
		wantRelation(t, command, command, "0 0", "2 2")
		expression := "new x = 0; a: exp [ if x == 2 [ 1 ] [ do { " + body + " } [ 1 ] ] ]"
		wantRelation(t, expression, expression, "0 0", "2 2")
	}
}

// P7.5: all states of four variables.
func TestAllStates(t *testing.T) {
	const count = "x := x + 1; if x { skip } { y := y + 1; if y { skip } { z := z + 1; if z { skip } { w := w + 1 } } }"
	const zeros = "new w = 0; new z = 0; new y = 0; new x = 0; "
	var want []string
	for i := range 256 {
		text := string([]byte{'0' + byte(i/64), '0' + byte(i/16%4), '0' + byte(i/4%4), '0' + byte(i%4)})
		want = append(want, text+" "+text)
	}
	module := zeros + "next: com { " + count + " }; get: exp [ x * y + z * w ]"
	wantRelation(t, module, module, want...)

	// One operation moves the one module, the other one the other module.
	first, second := mustRead(t, zeros+"a: com { "+count+" }; b: com { skip }"), mustRead(t, zeros+"a: com { skip }; b: com { "+count+" }")
	got, err := parts.Relation(first, second)
	if err != api.OK || len(got) != 256*256 {
		t.Fatalf("Relation: %d pairs, error %d; want %d", len(got), err, 256*256)
	}
	for i, p := range got {
		if i > 0 && slices.Compare(slices.Concat(got[i-1][0], got[i-1][1]), slices.Concat(p[0], p[1])) >= 0 {
			t.Fatalf("pair %d is %v, behind %v", i, p, got[i-1])
		}
	}
}

// P7.5: ErrFull by the nodes of the program of P7.6: two for each variable, two around a command, four around an expression.
func TestProgramsWithTooManyNodes(t *testing.T) {
	for count, variables := range []string{"", "new x=0;", "new x=0;new y=0;"} {
		room := api.MaxNodes - 2*count
		wantRelationError(t, variables+"a:com{"+skips(room-1)+"}", "a:com{skip}", api.ErrFull)
		wantSame(t, variables+"a:com{"+skips(room-1)+"}", "a:com{skip}", true)
		wantRelation(t, "a:com{skip}", variables+"a:com{"+skips(room-3)+"}", " "+strings.Repeat("0", count))
		wantRelation(t, "a:com{skip}", variables+"a:com{if 0{skip}{skip};"+skips(room-7)+"}", " "+strings.Repeat("0", count))
		wantRelationError(t, variables+"a:exp["+sum(room-3)+"]", variables+"a:exp["+sum(room-3)+"]", api.ErrFull)
		wantRelation(t, "a:exp[2]", variables+"a:exp[if 1[2]["+sum(room-7)+"]]", " "+strings.Repeat("0", count))
		// Of each operation by itself, and of the last one, too.
		wantRelationError(t, variables+"a:com{skip};b:exp["+sum(room-3)+"]", variables+"a:com{skip};b:exp["+sum(room-3)+"]", api.ErrFull)
	}
	// ErrApart comes first.
	wantRelationError(t, "a:com{"+skips(599)+"}", "a:com{stop}", api.ErrApart)
}

// P7.5: ErrFull by the levels of the program of P7.6: one for each variable, one around a command, two around an expression.
func TestProgramsWithTooManyLevels(t *testing.T) {
	for count, variables := range []string{"", "new x=0;", "new x=0;new y=0;"} {
		room := api.MaxNest - count
		zeros := strings.Repeat("0", count)
		wantRelation(t, variables+"a:com{if 0{"+deep(room-2)+"}{skip}}", "a:com{skip}", zeros+" ")
		wantRelation(t, variables+"a:exp["+deepSum(room-2)+"]", variables+"a:exp["+deepSum(room-2)+"]", zeros+" "+zeros)
		wantSame(t, variables+"a:exp["+deepSum(room-1)+"]", variables+"a:exp["+deepSum(room-1)+"]", true)
		wantRelationError(t, variables+"a:exp["+deepSum(room-1)+"]", variables+"a:exp["+deepSum(room-1)+"]", api.ErrFull)
	}
}

// after is a command that makes just some steps, at least 30, and then begins the last one. It makes fewer beats (P4.4), since a call is none.
func after(steps int, last string) string {
	const perA, perB = 101, 2021 // the steps of a call and of the Seq behind it
	left := steps - 2            // both Proc
	row := ""
	for left > perB+10 {
		row, left = row+"b; ", left-perB
	}
	for left > perA+10 {
		row, left = row+"a; ", left-perA
	}
	if left%2 == 1 {
		row, left = row+"while 0 { skip }; ", left-3
	}
	row += strings.Repeat("skip; ", left/2)
	return "proc a() : com { " + many(50, "skip", "; ") + " } { proc b() : com { " + many(20, "a", "; ") + " } { " + row + last + " } }"
}

// P7.5: ErrFull by the steps of the program of P7.6.
func TestTooManySteps(t *testing.T) {
	for count, variables := range []string{"", "new x=0;", "new x=0;new y=0;"} {
		room := api.MaxSteps - 2*count
		fine, full := variables+"a:com{"+after(room-3, "skip")+"}", variables+"a:com{"+after(room-2, "skip")+"}"
		zeros := strings.Repeat("0", count)
		wantRelation(t, fine, "a:com{skip}", zeros+" ")
		wantRelation(t, "a:com{skip}", fine, " "+zeros)
		wantSame(t, full, "a:com{skip}", true)
		wantRelationError(t, full, "a:com{skip}", api.ErrFull)
		wantRelationError(t, full, full, api.ErrFull)
		// An expression has two nodes more around it, and one more here for its value.
		fine, full = variables+"a:exp[do{"+after(room-7, "skip")+"}[1]]", variables+"a:exp[do{"+after(room-6, "skip")+"}[1]]"
		wantRelation(t, fine, "a:exp[1]", zeros+" ")
		wantRelationError(t, full, "a:exp[1]", api.ErrFull)
		full = variables + "b:com{fault};" + full[len(variables):]
		wantRelationError(t, full, "b:com{fault};a:exp[1]", api.ErrFull)
	}
}

// P7.5: ErrFull by steps that are made in some states alone, by one module alone, or by what does not end.
func TestTooManyStepsInSomeState(t *testing.T) {
	const short = "a: com { skip }; b: com { skip }"
	long := after(api.MaxSteps, "skip")
	for state, want := range []api.Errno{api.ErrFull, api.ErrFull, api.ErrFull, api.OK} {
		text := "new x = 0; a: com { if x < 2 { x := x + 1 } { skip } }; b: com { if x == " + string(rune('0'+state)) + " { " + long + " } { skip } }"
		if want == api.OK {
			wantRelation(t, text, short, "0 ", "1 ", "2 ")
		} else {
			wantRelationError(t, text, short, want)
		}
	}
	// Behind a fault nothing is met.
	wantRelation(t, "new x = 0; a: com { x := 1; fault }; b: com { if x { "+long+" } { skip } }", "a: com { fault }; b: com { skip }", "0 ")
	// What faults or never ends makes its steps, too, although the other module tells it at once.
	wantRelationError(t, "a: com { "+after(api.MaxSteps, "fault")+" }", "a: com { fault }", api.ErrFull)
	wantRelationError(t, "a: com { "+after(api.MaxSteps, "stop")+" }", "a: com { stop }", api.ErrFull)
	wantRelation(t, "a: com { "+after(api.MaxSteps-10, "fault")+" }", "a: com { fault }", " ")
	wantRelation(t, "a: com { "+after(api.MaxSteps-10, "while 1 { skip }")+" }", "a: com { stop }", " ")
	// ErrApart comes first.
	wantRelationError(t, "a: com { "+long+" }", "a: com { fault }", api.ErrApart)
}
