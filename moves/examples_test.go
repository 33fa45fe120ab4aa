package moves_test

import "testing"

// The chapter's table of examples.
func TestExamples(t *testing.T) {
	wantPlays(t, []plays{
		{"p : com |- com : p", []string{"0 3", "0 3 4 1"}, []string{"", "0", "0 1", "0 3 4", "0 3 4 2", "0 3 4 3", "0 3 4 1 0", "0 3 4 1 0 3"}},
		{"x : exp |- exp : x + 1", []string{"0 6", "0 6 7 2", "0 6 8 3", "0 6 9 4", "0 6 10 1"}, []string{"0 6 7 1", "0 6 10 5"}},
		{"f(com) : com |- com : f({ skip })", []string{"0 3", "0 3 5 6", "0 3 5 6 5 6", "0 3 4 1", "0 3 5 6 5 6 5 6 4 1"}, []string{"0 3 5", "0 3 5 1", "0 3 6 5", "0 3 4 5", "0 3 5 6 6 1"}},
		{"f(com) : com |- com : new x = 0 { f({ x := x + 1; if x == 3 { fault } { skip } }) }", []string{"0 3 5 6 5 6 5 2", "0 3 5 6 5 6 4 1"}, []string{"0 3 5 6 5 6 5 6", "0 3 5 2"}},
		{"|- com : stop", nil, []string{"", "0", "0 1", "0 2"}},
		{"|- com : while 1 { skip }", nil, []string{"", "0", "0 1", "0 2"}},
		{"|- com : fault", []string{"0 2"}, []string{"0 1", "0 2 0 2"}},
		{"p : com, f(com) : com |- com : f({ p })", []string{"0 3", "0 3 5 7", "0 3 5 7 8 6", "0 3 5 7 8 6 4 1", "0 3 5 7 8 6 5 7 8 6 4 1", "0 3 4 1"}, []string{"0 7", "0 3 5 6", "0 3 5 7 4 1", "0 3 5 7 6 1"}},
		{"f(val) : com, x : exp |- com : f(x + 1)", []string{"0 8", "0 8 9 4", "0 8 12 3", "0 8 9 4 7 1"}, []string{"0 3", "0 8 9 3", "0 8 9 4 1 7"}},
		{"f(com) : com |- com : block k { f({ exit k }); fault }", []string{"0 3", "0 3 5 1", "0 3 4 2"}, []string{"0 3 5 6", "0 3 5 2", "0 3 4 1"}},
		{"f(com) : com, g(com) : com |- com : f({ block k { g({ exit k }) } })", []string{"0 3 5 7 9 6 4 1"}, []string{"0 3 5 7 9 10", "0 3 5 7 9 1"}},
	})
	wantStates(t, "p : com |- com : p", 5)
	wantStates(t, "x : exp |- exp : x + 1", 8)
	wantStates(t, "f(com) : com |- com : f({ skip })", 6)
	wantStates(t, "|- com : stop", 0)
	wantStates(t, "|- com : while 1 { skip }", 0)
	wantStates(t, "f(com) : com |- com : block k { f({ exit k }); fault }", 6)
	wantFull(t, "f(com) : com |- com : f({ block k { f({ exit k }) } })", "0 3", "")
}
