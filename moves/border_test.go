package moves_test

import "testing"

// names are the declarations of the pieces at the border.
const names = "f(com, exp) : com, g(com, exp) : com, h(val, com) : com, p : com |- com : "

// P4.9: an exit out of an argument for a block within an argument of the same name and place.
func TestBeyondTheBorder(t *testing.T) {
	for _, text := range []string{
		"f({ block k { f({ exit k }, 0) } }, 0)",
		"f({ p; block k { p; f({ p; exit k }, 0); p } }, 0)",
		"f({ skip }, do { block k { f({ skip }, exit k) } } [ 1 ])",
		"f({ block k { f({ skip }, do { exit k } [ 1 ]) } }, 0); f({ block k { f({ exit k }, 1) } }, 0)",
		"h(1, { block k { h(2, { exit k }) } })",
		// further in
		"f({ g({ block k { f({ exit k }, 0) } }, 0) }, 0)",
		"f({ block k { g({ f({ exit k }, 0) }, 0) } }, 0)",
		"f({ block k { f({ g({ exit k }, 0) }, 0) } }, 0)",
		"f({ g({ skip }, do { block k { g({ f({ g({ p; exit k }, 0) }, 0) }, 1) } } [ 0 ]) }, 0)",
		"f({ block l { block k { f({ block l { exit k } }, 0) } } }, 0)",
		"f({ block k { h(exit k, { f({ exit k }, 0) }) } }, 0)",
		"f({ while 1 { new x = do { block k { f({ if 1 { skip } { exit k } }, 0) } } [ 1 ] { skip } } }, 0)",
		// never run
		"stop; f({ block k { f({ exit k }, 0) } }, 0)",
		"if 0 { f({ fault; block k { f({ fault; exit k }, 0) } }, 0) } { p }",
		// where procedures put it
		"proc a(x : com) : com { f({ x }, 0) } { a({ block k { a({ exit k }) } }) }",
		"proc a(x : com) : com { f({ block k { x; exit k } }, 0) } { block l { a({ a({ skip }) }) }; f({ block l { a({ exit l }) } }, 0) }",
		"proc a() : com { f({ block k { f({ exit k }, 0) } }, 0) } { a }",
	} {
		wantFull(t, names+text, "", "0", "0 1", "0 3")
	}
}

// P4.9: blocks that are left out of arguments without being beyond the border.
func TestWithinTheBorder(t *testing.T) {
	for _, text := range []string{
		"block k { f({ exit k }, 0) }",
		"block k { f({ f({ exit k }, 0) }, 0) }",
		"block k { f({ g({ f({ exit k }, exit k) }, exit k) }, 0) }",
		"f({ block k { exit k } }, 0)",
		"f({ block k { f({ skip }, 0); exit k } }, 0)",
		"f({ f({ block k { exit k } }, 0) }, 0)",
		"f({ block k { f({ block k { exit k } }, 0) } }, 0)",
		// another place
		"f({ block k { f({ skip }, exit k) } }, 0)",
		"f({ skip }, do { block k { f({ exit k }, 0) } } [ 1 ])",
		// another name
		"f({ block k { g({ exit k }, 0) } }, 0)",
		"f({ block k { g({ h(1, { exit k }) }, exit k) } }, do { block k { g({ exit k }, 0) } } [ 0 ])",
		// by value
		"f({ block k { h(exit k, { skip }) } }, 0)",
		"h(do { block k { h(1, { exit k }) } } [ 1 ], { skip })",
		"h(do { block k { h(exit k, { skip }) } } [ 1 ], { skip })",
		// beside each other
		"block k { f({ exit k }, 0) }; block k { f({ exit k }, 0) }",
		"f({ skip }, 0); block k { f({ exit k }, 0) }",
		// where it does not stand
		"proc a() : com { f({ block k { f({ exit k }, 0) } }, 0) } { p }",
		"proc a(x : com) : com { p } { a({ f({ block k { f({ exit k }, 0) } }, 0) }) }",
		"proc f(x : com) : com { x } { f({ block k { f({ exit k }) } }) }",
		"proc a(x : com) : com { block k { f({ x }, exit k) } } { a({ a({ skip }) }) }",
	} {
		mustPlays(t, names+text)
	}
}

// P4.9: within the border answers are those to the last questions that are open.
func TestAnswersWithinTheBorder(t *testing.T) {
	// f: 3 to 6, then 7 to 11; g: 12 to 20; h: 21 to 27; p: 28, 29
	wantPlays(t, []plays{
		{names + "f({ block k { g({ exit k }, 0) } }, 0)", []string{"0 3 5 12 14 6 4 1", "0 3 5 12 14 6 5 12 14 6 5 12 13 6 4 1"}, []string{"0 3 5 12 14 15"}},
		{names + "f({ block k { f({ skip }, exit k) } }, 0)", []string{"0 3 5 3 7 6 4 1", "0 3 5 3 5 6 7 6 7 8 4 1"}, []string{"0 3 5 3 7 8"}},
		{names + "block k { f({ f({ exit k }, 0) }, 0) }; p", []string{"0 3 5 3 5 28 29 1", "0 3 5 3 4 6 5 3 5 28"}, []string{"0 3 5 3 5 6"}},
	})
}
