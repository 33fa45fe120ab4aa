package moves_test

import "testing"

// P4.1: questions about names, their answers, and the answer to the question about the piece, with their values.
func TestQuestionsAndAnswers(t *testing.T) {
	wantPlays(t, []plays{
		{"|- com : skip", []string{"0 1"}, []string{"0", "1", "0 2", "0 0"}},
		{"|- exp : 3", []string{"0 4"}, []string{"0 1", "0 2", "0 3", "0 5"}},
		{"|- exp : 2 + 3 * 3", []string{"0 4"}, []string{"0 1"}},
		{"|- exp : 1 - 2 == 3", []string{"0 2"}, nil},
		{"|- exp : (3 < 2) + (2 < 3)", []string{"0 2"}, nil},
		{"p : com, q : com |- com : p; q; p", []string{"0 3", "0 3 4 5", "0 3 4 5 6 3", "0 3 4 5 6 3 4 1"}, []string{"0 5", "0 3 6", "0 3 4 3", "0 3 6 5", "0 3 4 5 4 3"}},
		{"x : exp |- com : if x { skip } { fault }", []string{"0 3", "0 3 4 2", "0 3 5 1", "0 3 6 1", "0 3 7 1"}, []string{"0 3 4 1", "0 3 5 2", "0 3 7 5"}},
		{"x : exp |- exp : do { if x { stop } { skip } } [ x - 1 ]", []string{"0 6 7 6 7 4", "0 6 7 6 8 1", "0 6 7 6 10 3"}, []string{"0 6 8 6", "0 6 10 1"}},
		{"x : exp |- exp : new y = x [ do { y := y * y } [ y ] ]", []string{"0 6 8 2", "0 6 9 1", "0 6 10 2"}, []string{"0 6 10 4"}},
		{"p : com |- exp : do { p } [ 2 ]", []string{"0 6 7 3"}, []string{"0 6 7 1"}},
	})
}

// P4.1: arguments by value are run from the left to the right, ahead of the question, which has their values.
func TestArgumentsByValue(t *testing.T) {
	wantPlays(t, []plays{
		// f: 3 to 18, 19, 20 and 21; x: 22 to 26; y: 27 to 31
		{"f(val, com, val) : com, x : exp, y : exp |- com : f(x, { skip }, y + 1)",
			[]string{"0 22", "0 22 25 27", "0 22 25 27 29 13", "0 22 23 27 31 3", "0 22 26 27 30 18", "0 22 25 27 29 13 20 21 20 21 19 1"},
			[]string{"0 27", "0 3", "0 22 25 13", "0 22 25 27 29 12", "0 22 25 27 29 9", "0 22 25 27 29 13 19 20"}},
		{"f(val, val, val) : com |- com : f(3, 1, 2)", []string{"0 42", "0 42 67 1"}, []string{"0 43", "0 30"}},
		{"f(com, val) : com, p : com |- com : f({ p }, do { p } [ 3 ])", []string{"0 10", "0 10 11 6", "0 10 11 6 8 10 11 9", "0 10 11 6 7 1"}, []string{"0 6", "0 3", "0 10 11 9"}},
		{"f(val) : exp |- exp : f(f(2))", []string{"0 8", "0 8 13 9 10 1"}, []string{"0 8 13 8"}},
		{"f(val) : com |- com : new x = 1 { f(do { x := x + 1 } [ x ]); f(x) }", []string{"0 5 7 5 7 1"}, nil},
		{"f(val) : com |- com : f(fault)", []string{"0 2"}, []string{"0 3"}},
		{"f(val) : com |- com : f(stop)", nil, []string{"0 1", "0 2", "0 3"}},
	})
}

// P4.1: the other side asks about arguments by name as often as it likes, in any order; their variables are as they are then.
func TestArgumentsByName(t *testing.T) {
	wantPlays(t, []plays{
		// 3 the question about f, 4 its answer, 5 that about its argument, 6 to 9 the answers to it
		{"f(exp) : com |- com : new n = 0 { f(do { n := n + 1 } [ n ]); if n == 2 { skip } { fault } }",
			[]string{"0 3", "0 3 5 7", "0 3 5 7 5 8", "0 3 5 7 5 8 5 9 5 6", "0 3 5 7 5 8 4 1", "0 3 5 7 4 2", "0 3 4 2", "0 3 5 7 5 8 5 9 5 6 5 7 5 8 4 1"},
			[]string{"0 3 5 6", "0 3 5 7 5 7", "0 3 5 7 4 1"}},
		// 7 the answer, 8 and 9 the first argument, 10 to 14 the third one
		{"f(com, val, exp) : com |- com : new n = 0 { f({ n := n + 1 }, 0, n) }",
			[]string{"0 3", "0 3 8 9 10 12", "0 3 10 11 8 9 8 9 10 13 7 1", "0 3 7 1"},
			[]string{"0 3 10 12", "0 3 8 9 10 11", "0 3 8 9 10 12 10 11", "0 3 12 1"}},
		{"f(com, com) : com, p : com |- com : f({ p }, { fault })", []string{"0 3 5 9 10 6 5 9 10 6 4 1", "0 3 7 2", "0 3 5 9 10 6 7 2"}, []string{"0 3 7 8", "0 3 5 9 10 8", "0 3 7 2 4 1"}},
	})
}

// P4.1: an argument may ask about names, also about the one whose argument it is; the inner call waits then.
func TestArgumentsThatAsk(t *testing.T) {
	wantPlays(t, []plays{
		{"f(com) : com |- com : f({ f({ skip }); fault })",
			[]string{"0 3 5 3", "0 3 5 3 5 6", "0 3 5 3 5 6 5 6 4 2", "0 3 5 3 4 2", "0 3 4 1"},
			[]string{"0 3 5 3 5 3", "0 3 5 3 4 6", "0 3 5 3 5 6 4 1"}},
		{"f(com) : com |- com : f({ f({ f({ skip }) }) })",
			[]string{"0 3 5 3 5 3 5 6 4 6 4 6 4 1", "0 3 5 3 5 3 4 6 5 3 4 6 4 6 5 3 4 6 4 1"},
			[]string{"0 3 5 3 5 3 5 3", "0 3 5 3 5 3 4 1"}},
		{"f(exp) : exp |- exp : f(f(1) + 1)", []string{"0 6 11 6 11 13 9 15", "0 6 11 6 9 15 10 4", "0 6 11 6 10 12 11 6 7 13 7 1"}, []string{"0 6 11 6 9 14"}},
		{"f(com) : com, g(com) : com |- com : f({ g({ f({ skip }) }) })", []string{"0 3 5 7 9 3 5 6 4 10 8 6 4 1"}, []string{"0 3 5 7 5 3", "0 3 5 7 9 3 9 3", "0 3 5 7 9 3 5 10"}},
	})
}

// P4.1: an exit that leaves arguments answers nothing; the calls are given up, and the piece goes on behind the block.
func TestExitsOutOfArguments(t *testing.T) {
	wantPlays(t, []plays{
		{"f(com) : com, g(com) : com |- com : block k { f({ g({ exit k }); fault }); fault }",
			[]string{"0 3 5 7 9 1", "0 3 5 7 8 2", "0 3 4 2"}, []string{"0 3 5 7 9 10", "0 3 5 7 9 6", "0 3 5 7 9 2"}},
		{"f(com) : com, g(com) : com |- com : f({ block k { g({ exit k }) }; g({ skip }) })",
			[]string{"0 3 5 7 9 7", "0 3 5 7 9 7 9 10 8 6 4 1", "0 3 5 7 8 7"}, []string{"0 3 5 7 9 6"}},
		{"f(val) : com, p : com |- com : block k { f(exit k) }; p", []string{"0 8", "0 8 9 1"}, []string{"0 3"}},
		{"f(exp) : exp |- com : block k { new x = f(exit k) { fault } }", []string{"0 3 8 1", "0 3 4 2", "0 3 7 2"}, []string{"0 3 8 9"}},
		// what is open outside of the block is kept: x: 16 to 20; f: 6 to 15
		{"f(exp) : exp, x : exp |- exp : x - do { block k { new y = 1 + f(exit k) { fault } } } [ x ]",
			[]string{"0 16 19 6 11 16 18 2", "0 16 17 6 11 16 20 2", "0 16 17 6 11 16 17 1", "0 16 17 6 7 5"}, []string{"0 16 19 6 11 16 18 4"}},
		{"f(com) : com |- com : new n = 0 { while n < 2 { block k { f({ n := n + 1; exit k }); fault } } }",
			[]string{"0 3 5 3 5 1", "0 3 5 3 4 2"}, []string{"0 3 5 1", "0 3 5 6"}},
		{"p : com |- com : block k { block l { p; exit k }; fault }; p", []string{"0 3 4 3 4 1"}, []string{"0 3 4 2"}},
	})
}

// P4.1: the fault ends the play, wherever it is begun.
func TestFaults(t *testing.T) {
	wantPlays(t, []plays{
		{"p : com |- com : p; fault; p", []string{"0 3 4 2"}, []string{"0 3 4 2 4 1", "0 3 4 2 0 3", "0 3 4 2 4 3"}},
		{"f(com) : com |- com : f({ fault }); stop", []string{"0 3", "0 3 5 2"}, []string{"0 3 5 6", "0 3 4 1", "0 3 4 2", "0 3 5 2 4 1", "0 3 5 2 5 2"}},
		{"x : exp |- exp : x + fault", []string{"0 6 7 5"}, []string{"0 5"}},
	})
}

// P4.1: a piece that never makes a move again.
func TestNoFurtherMove(t *testing.T) {
	wantPlays(t, []plays{
		{"p : com |- com : p; stop", []string{"0 3"}, []string{"0 3 4", "0 3 4 0", "0 3 4 1", "0 3 4 2", "0 3 4 3"}},
		{"f(com) : com |- com : f({ stop })", []string{"0 3", "0 3 4 1"}, []string{"0 3 5", "0 3 5 6", "0 3 5 2"}},
		{"x : exp |- exp : x + (if x [ stop ] [ 1 ])", []string{"0 6", "0 6 9 6 7 4"}, []string{"0 6 9 6 8 4", "0 6 9 6 8 5"}},
		{"x : exp |- com : while x { skip }; fault", []string{"0 3 5 3 5 3 4 2"}, []string{"0 3 4 1"}},
		{"p : com |- com : while 1 { skip }; p", nil, []string{"0 0", "0 1", "0 3"}},
		{"p : com |- com : stop; p", nil, []string{"0 0", "0 1", "0 3"}},
	})
	wantStates(t, "p : com, f(com) : exp |- exp : stop", 0)
	wantStates(t, "p : com |- com : p; stop", 3)
}

// P4.2: a play ends with a move of the piece, and each move of the other side is one that it may make.
func TestMovesOfTheOtherSide(t *testing.T) {
	wantPlays(t, []plays{
		{"f(com) : com, g(exp) : exp, p : com |- com : f({ new x = g(2) { p } })",
			[]string{"0 3", "0 3 5 7", "0 3 5 7 12 15", "0 3 5 7 12 15 12 15 9 17", "0 3 5 7 9 17 18 6", "0 3 5 7 8 17 18 6 5 7 11 17 18 6 4 1"},
			[]string{
				"", "0", "0 3 5", "0 3 5 7 12 15 9", // the last one is the other side's
				"3", "3 5", "5 7", "1 3", "0 0", "0 1 0 3", // the first one is another question
				"0 3 6 7", "0 3 0 7", "0 3 3 7", "0 3 1 7", "0 3 2 7", // what only the piece may say
				"0 3 8 7", "0 3 12 15", "0 3 18 6", // what was not asked
				"0 3 5 7 5 7", "0 3 5 7 4 1", // f does not wait
				"0 3 5 7 12 15 5 7", "0 3 5 7 9 17 12 15", "0 3 5 7 9 17 9 17",
				"0 3 5 7 12 13", "0 3 5 7 12 16", // another value
			}},
	})
}
