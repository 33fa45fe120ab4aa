package moves_test

import (
	"strings"
	"testing"

	"doppelganger/api"
	"doppelganger/moves"
	"doppelganger/play"
)

// spinning is a term of loops, each but the last one around another one, each run three times; fill tells how often skip stands in each of them, and ahead of all.
func spinning(fill []int) string {
	text := ""
	for level := len(fill) - 1; level > 0; level-- {
		name := "stuvw"[level-1 : level]
		text = "new " + name + " = 3 { while " + name + " { " + name + " := " + name + " - 1" + strings.Repeat("; skip", fill[level]) + text + " } }"
		text = "; " + text
	}
	return "skip" + strings.Repeat("; skip", fill[0]) + text
}

// busy is a term of the type com, without calls, that makes so many beats; there are at least some thousands.
func busy(t *testing.T, beats int) string {
	t.Helper()
	fill := make([]int, 6)
	_, _, base, _ := play.Run(mustRead(t, "|- com : "+spinning(fill)))
	odd := (beats - base) % 2 // while 0 { skip } in the place of a skip makes two beats more, one in a row three more
	left := beats - base - 3*odd
	for level, cost := 5, 2*243; level >= 0; level, cost = level-1, cost/3 {
		fill[level], left = left/cost, left%cost
	}
	text := spinning(fill)
	if odd == 1 {
		// The row has one step more: While, 0 and the Seq.
		text = "while 0 { skip }; " + text
	}
	if result, _, steps, _ := play.Run(mustRead(t, "|- com : "+text)); beats <= api.MaxSteps && (result != api.Done || steps != beats) {
		t.Fatalf("%d beats are made in the place of %d", steps, beats)
	}
	return text
}

// frame is a term around BUSY, in which a row makes some more beats than BUSY; plays are its plays if the row is not too long, the first one that which ends with the row.
type frame struct {
	decls, text string
	more        int
	plays       []string
}

var frames = []frame{
	{"p : com ", "com : BUSY; p", 2, []string{"0 3", "0 3 4 1"}},
	{"p : com ", "com : p; block k { BUSY }; p", 2, []string{"0 3 4 3", "0 3"}},
	{"p : com ", "com : while 1 { p; block k { BUSY } }", 4, []string{"0 3 4 3", "0 3 4 3 4 3"}},
	{"f(com) : com ", "com : f({ BUSY })", 0, []string{"0 3 5 6", "0 3 4 1"}},
	{"f(exp) : com ", "com : f(1 + do { BUSY } [ 2 ])", 4, []string{"0 3 5 9", "0 3 4 1"}},
	{"f(val) : com ", "com : f(do { BUSY } [ 1 ])", 3, []string{"0 4"}},
	{"f(val, com) : com ", "com : f(do { BUSY } [ 1 ], { fault })", 3, []string{"0 4", "0 4 8 2"}},
	{"", "com : BUSY; fault", 2, []string{"0 2"}},
	{"", "com : BUSY", 0, []string{"0 1"}},
	{"", "exp : do { BUSY } [ 3 ]", 2, []string{"0 4"}},
	{"p : com ", "com : p; block k { BUSY }", 1, []string{"0 3 4 1", "0 3"}},
	{"p : com ", "com : p; block k { BUSY }; fault", 2, []string{"0 3 4 2", "0 3"}},
	{"p : com ", "com : proc g(x : com) : com { x } { g({ BUSY }); p }", 2, []string{"0 3"}},
	{"p : com ", "com : proc g() : com { BUSY } { proc h() : com { g } { block k { h }; p } }", 3, []string{"0 3"}},
	{"p : com ", "com : proc g(v : val) : com { v := v } { g(1); block k { BUSY }; p }", 8, []string{"0 3"}},
	{"p : com ", "com : block k { block l { BUSY }; exit k; fault }; p", 7, []string{"0 3"}},
	{"x : exp ", "com : new v = x { if v { BUSY } { skip } }", 2, []string{"0 3 5 1", "0 3 4 1"}},
}

// P4.6, P4.7, P4.8: a row of just MaxInner beats, and one of one more.
func TestLongRows(t *testing.T) {
	for _, f := range frames {
		fit := strings.ReplaceAll(f.decls+"|- "+f.text, "BUSY", busy(t, api.MaxInner-f.more))
		wantPlays(t, []plays{{fit, f.plays, nil}})
		wantFull(t, strings.ReplaceAll(f.decls+"|- "+f.text, "BUSY", busy(t, api.MaxInner-f.more+1)), f.plays[0])
	}
}

// P4.6: a row without a move is not too long if it is seen by then that it never makes one.
func TestLongRowsWithoutMove(t *testing.T) {
	for _, f := range []frame{
		{"p : com ", "com : BUSY; stop; p", 3, nil},
		{"p : com ", "com : BUSY; while 1 { skip }", 4, nil},
		{"p : com ", "com : block k { BUSY }; new a = 1 { while a { a := 3 - a } }", 15, nil},
		{"p : com ", "com : while 1 { BUSY }", 2, nil},
	} {
		wantStates(t, strings.ReplaceAll(f.decls+"|- "+f.text, "BUSY", busy(t, api.MaxInner-f.more)), 0)
		wantFull(t, strings.ReplaceAll(f.decls+"|- "+f.text, "BUSY", busy(t, api.MaxInner-f.more+1)), "0 1", "0 3")
	}
}

// P4.6: it is not seen that a row has no end by what a While asked in another run of it.
func TestLongRowsOfOtherRuns(t *testing.T) {
	for _, inner := range []string{"while 0 { skip }", "block l { while 1 { exit l } }", "a := a + 0 * do { while 0 { skip } } [ 1 ]"} {
		text := "|- com : new a = 0 { while 1 { a := 1; " + inner + "; block k { BUSY } } }"
		wantStates(t, strings.ReplaceAll(text, "BUSY", busy(t, 9000)), 0)
		wantFull(t, strings.ReplaceAll(text, "BUSY", busy(t, 12000)), "0 1", "0 2")
	}
}

// P4.6: each move of the other side begins a row of its own.
func TestManyRows(t *testing.T) {
	long := "block k { " + busy(t, 15000) + " }"
	wantPlays(t, []plays{
		{"p : com |- com : " + long + "; p; " + long + "; p", []string{"0 3 4 3 4 1"}, []string{"0 3 4 1"}},
		{"f(com) : com |- com : " + long + "; f({ " + long + " })", []string{"0 3", "0 3 5 6 5 6 4 1"}, nil},
		{"x : exp |- com : while x { " + long + " }", []string{"0 3 5 3 6 3 7 3 4 1"}, nil},
	})
}

// P4.7, P4.8: a row that is too long counts just if it comes up in plays.
func TestLongRowsThatDoNotComeUp(t *testing.T) {
	long := busy(t, api.MaxInner+1)
	wantPlays(t, []plays{
		{"p : com |- com : p; stop; " + long, []string{"0 3"}, []string{"0 3 4 1"}},
		{"f(com) : com |- com : block k { f({ exit k; " + long + " }) }", []string{"0 3 5 1", "0 3 4 1"}, nil},
		{"f(com) : com |- com : if 0 { f({ " + long + " }) } { skip }", []string{"0 1"}, nil},
	})
	p := mustRead(t, "f(com) : com, p : com |- com : p; f({ "+long+" }); p")
	wantFull(t, p.Text(), "0 7 8 3 5 6", "0 7 8 3 5 7", "0 7 8 3 5 6 0 0")
	for _, letters := range []string{"0 7", "0 7 8 3", "0 7 8 3 4 7", "0 7 8 3 4 7 8 1"} {
		wantPlay(t, p, row(p, word(t, letters)), true)
	}
	for _, letters := range []string{"0 3 5 6", "0 7 8 1 5 6", "0 7 8 3 5", "0 7 8 3 6 6", "0 7 8 3 4 7 5 6"} {
		wantPlay(t, p, row(p, word(t, letters)), false)
	}
}

// P4.6: a While that asks with the same values again, in one run of it and behind one move.
func TestAskingAgain(t *testing.T) {
	wantPlays(t, []plays{
		{"p : com |- com : while 1 { p }", []string{"0 3 4 3 4 3 4 3"}, []string{"0 3 4 1"}},
		{"x : exp |- com : while x { skip }", []string{"0 3 5 3 5 3 6 3 4 1"}, nil},
		{"x : exp |- com : while 1 { new v = x { while v { skip } } }", []string{"0 3 4 3", "0 3 4 3 4 3"}, []string{"0 3 5 3", "0 3 4 3 5 3", "0 3 5 1"}},
		{"p : com |- com : new a = 1 { while a { a := 3 - a }; p }", nil, []string{"0 3"}},
		{"p : com |- com : new a = 1 { while a { a := a + 1 }; p }", []string{"0 3 4 1"}, nil},
		{"x : exp |- com : new a = 1 { while a { if x { while a { skip } } { skip } } }", []string{"0 3 4 3 4 3"}, []string{"0 3 5 3"}},
		{"p : com |- com : new a = 1 { while a { p; while a { a := a + 1 }; a := 1 } }", []string{"0 3 4 3 4 3"}, nil},
		{"f(com) : com |- com : new a = 0 { f({ while a == 2 { skip }; a := a + 1 }); fault }", []string{"0 3 5 6 5 6", "0 3 5 6 5 6 4 2"}, []string{"0 3 5 6 5 6 5 6"}},
		// other runs, with the same values
		{"p : com |- com : new a = 0 { while a < 3 { a := a + 1; block k { while 1 { exit k } } } }; p", []string{"0 3"}, nil},
		{"p : com |- com : new a = 3 { while a { a := a - (do { a := 0; while a { skip } } [ 1 ]) } }; p", []string{"0 3"}, nil},
		{"p : com |- com : new a = 0 { while a < 2 { new b = a { a := 0; block k { while 1 { if b { exit k } { b := 1 } } }; a := a + b; p } } }", []string{"0 3 4 3 4 3"}, nil},
	})
}

// P4.6: a variable that only what stands around a While can see tells its askings apart, if it is open there.
func TestVariablesOfAskings(t *testing.T) {
	wantSame(t, "p : com |- com : p",
		"p : com |- com : new a = 3 { proc g(x : exp) : com { new a = 0 { while x { a := 0 } } } { g(do { a := a - 1 } [ a ]) } }; p",
		"p : com |- com : new a = 3 { proc g(x : com) : com { block k { while 1 { x; if a { skip } { exit k } } } } { g({ a := a - 1 }) } }; p")
}

// P4.6: the beats of rows are those of the unfolded term: play.Run counts as many steps of one without procedures.
func TestBeatsOfPrograms(t *testing.T) {
	for _, text := range []string{busy(t, api.MaxInner), "new a = 0 { " + busy(t, api.MaxInner-2) + " }"} {
		p := mustRead(t, "|- com : "+text)
		if _, err := moves.Plays(p); err != api.OK {
			t.Errorf("%.100s: error %d", text, err)
		}
	}
}
