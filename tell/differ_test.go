package tell_test

import (
	"slices"
	"testing"

	"doppelganger/api"
	"doppelganger/lang"
	"doppelganger/tell"
)

// P5.2: pieces that are the same though they are written otherwise.
func TestSame(t *testing.T) {
	for _, pair := range samePairs {
		wantSame(t, pair[0], pair[1])
		wantSame(t, pair[1], pair[0])
		wantSame(t, pair[0], pair[0])
	}
}

// samePairs are texts of pieces that are the same.
var samePairs = [][2]string{
	{"|- com : skip", "|- com : new x = 3 { while x { x := x - 1 } }"},
	{"|- com : stop", "|- com : while 1 { skip }"},
	{"|- exp : stop", "|- exp : 1 + stop"},
	{"|- com : fault", "|- com : fault; stop"},
	{"|- exp : 2 * 2", "|- exp : 0"},
	{"|- exp : new x = 1 [ do { x := x + 1; x := x * x } [ x ] ]", "|- exp : 0"},
	{"p : com |- com : p", "p : com |- com : block k { p; exit k; p }"},
	{"p : com |- com : p; p", "p : com |- com : new n = 0 { while n < 2 { n := n + 1; p } }"},
	{"p : com |- com : p; p; p; p", "p : com |- com : proc t(c : com) : com { c; c } { t({ t({ p }) }) }"},
	{"p : com |- com : p; stop", "p : com |- com : p; while 1 { skip }; p"},
	{"p : com |- com : new x = 0 { p; if x { fault } { skip } }", "p : com |- com : p"},
	{"x : exp |- exp : x * 2", "x : exp |- exp : new y = x [ y + y ]"},
	{"x : exp |- exp : x * 0", "x : exp |- exp : do { new y = x { skip } } [ 0 ]"},
	{"x : exp |- exp : x < 3", "x : exp |- exp : new y = x [ if y == 3 [ 0 ] [ 1 ] ]"},
	{"x : exp |- com : while x { skip }", "x : exp |- com : block k { while 1 { if x { skip } { exit k } } }"},
	{"f(com) : com |- com : f({ skip })", "f(com) : com |- com : f({ new x = 1 { x := 2 } })"},
	{"f(com) : com |- com : f({ stop })", "f(com) : com |- com : f({ while 1 { skip } }); skip"},
	{"f(com) : com |- com : block k { f({ exit k }); fault }", "f(com) : com |- com : new x = 0 { block k { f({ x := 1; exit k }) }; if x { skip } { fault } }"},
	{"f(val) : com |- com : f(3)", "f(val) : com |- com : new x = 1 { f(x + 2) }"},
	{"f(val, val) : com, x : exp |- com : f(x, 2)", "f(val, val) : com, x : exp |- com : new y = x { f(y, y * 0 + 2) }"},
	{"f(exp) : exp, x : exp |- exp : f(x)", "f(exp) : exp, x : exp |- exp : f(new y = x [ y ])"},
	{"f(com, exp) : com, p : com |- com : new n = 0 { f({ n := n + 1; p }, n) }", "f(com, exp) : com, p : com |- com : new n = 0 { f({ n := n - 1; p }, 0 - n) }"},
	{"f(com) : com, p : com |- com : f({ block k { p; exit k; fault } })", "f(com) : com, p : com |- com : f({ p })"},
	{"f(com) : com, g(com) : com |- com : f({ block k { g({ exit k }); exit k } })", "f(com) : com, g(com) : com |- com : f({ block k { g({ exit k }) } })"},
}

// P5.2: the shortest difference, and whose it is.
func TestDiffer(t *testing.T) {
	for _, c := range []struct {
		first, second, play string
		isFirst             bool
	}{
		{"|- com : skip", "|- com : stop", "? !0", true},
		{"|- com : fault", "|- com : stop", "? fault", true},
		{"|- com : fault", "|- com : skip", "? !0", false}, // ahead of the fault in Letters
		{"|- exp : 3", "|- exp : 2", "? !2", false},
		{"|- exp : 3", "|- exp : fault", "? !3", true},
		{"|- exp : stop", "|- exp : 1 + 2", "? !3", false},
		{"p : com |- com : p; p", "p : com |- com : p", "? p? p!0 !0", false},
		{"p : com |- com : p; p; stop", "p : com |- com : p; p; p", "? p? p!0 p? p!0 p?", false},
		{"p : com |- com : p; p; fault", "p : com |- com : p; p; stop", "? p? p!0 p? p!0 fault", true},
		{"p : com, q : com |- com : p; q", "p : com, q : com |- com : q; p", "? p?", true},
		{"p : com, q : com |- com : q", "p : com, q : com |- com : fault", "? fault", false},
		{"p : com |- com : p", "p : com |- com : fault", "? fault", false}, // ahead of the question in Letters
		{"x : exp |- exp : x", "x : exp |- exp : x * x", "? x? x!0 !0", true},
		{"x : exp |- exp : x", "x : exp |- exp : new y = x [ y * y ]", "? x? x!2 !0", false},
		{"x : exp |- exp : x + 1", "x : exp |- exp : new y = x [ if y == 3 [ 1 ] [ y + 1 ] ]", "? x? x!3 !0", true},
		{"x : exp |- com : while x { skip }", "x : exp |- com : if x { while x { skip } } { stop }", "? x? x!0 !0", true},
		{"x : exp |- com : while x { skip }", "x : exp |- com : if x { if x == 2 { skip } { while x { skip } } } { skip }", "? x? x!1 x? x!0 !0", true},
		{"f(com) : com |- com : f({ skip })", "f(com) : com |- com : f({ fault })", "? f? f.1? fault", false},
		{"f(com) : com |- com : f({ skip })", "f(com) : com |- com : f({ skip }); f({ skip })", "? f? f!0 !0", true},
		{"f(com) : com |- com : block k { f({ exit k }) }", "f(com) : com |- com : f({ skip })", "? f? f.1? !0", true},
		{"f(com) : com |- com : new n = 0 { f({ n := n + 1; if n == 3 { fault } { skip } }) }", "f(com) : com |- com : f({ skip })", "? f? f.1? f.1!0 f.1? f.1!0 f.1? fault", true},
		{"f(com, exp) : com |- com : f({ skip }, 1)", "f(com, exp) : com |- com : f({ skip }, 2)", "? f? f.2? f.2!1", true},
		{"f(com, com) : com |- com : f({ skip }, { stop })", "f(com, com) : com |- com : f({ stop }, { skip })", "? f? f.1? f.1!0", true},
		{"f(com, exp) : com |- com : new n = 0 { f({ n := n + 1 }, n) }", "f(com, exp) : com |- com : f({ skip }, 0)", "? f? f.1? f.1!0 f.2? f.2!0", false},
		{"f(val) : com |- com : f(1)", "f(val) : com |- com : f(2)", "? f(1)?", true},
		{"f(val, val) : com |- com : f(3, 0)", "f(val, val) : com |- com : f(0, 1)", "? f(3,0)?", true}, // 3 is below 4
		{"f(val, com) : exp |- exp : f(1, { skip })", "f(val, com) : exp |- exp : f(1, { skip }) + 1", "? f(1)? f!0 !0", true},
		{"f(com) : com, p : com |- com : f({ p })", "f(com) : com, p : com |- com : f({ p; p })", "? f? f.1? p? p!0 f.1!0", true},
		{"f(com) : com |- com : f({ f({ skip }) })", "f(com) : com |- com : f({ f({ stop }) })", "? f? f.1? f? f.1? f.1!0", true},
	} {
		wantDiffer(t, c.first, c.second, c.play, c.isFirst)
		wantWitness(t, c.first, c.second)
		wantWitness(t, c.second, c.first)
	}
}

// difference returns the first row of moves, by length and then by the order of moves, that is a play of just one piece, and whether it is the first one; none if no row of some rounds is.
func difference(t *testing.T, p, q *lang.Piece, rounds int) ([]api.Move, bool) {
	t.Helper()
	decls, typ := p.Decls(), p.Type()
	both := [][]api.Move{nil}
	for range rounds {
		var longer [][]api.Move
		for _, play := range both {
			for _, option := range next(decls, typ, play) {
				begun := append(slices.Clone(play), option)
				for _, made := range next(decls, typ, begun) {
					whole := append(slices.Clone(begun), made)
					first, second := plays(t, p, whole), plays(t, q, whole)
					if first != second {
						return whole, first
					}
					if first {
						longer = append(longer, whole)
					}
				}
			}
		}
		both = longer
	}
	return nil, false
}

// P5.2, T5: the difference of random pieces is the first row that a search through all rows finds.
func TestRandomDifferences(t *testing.T) {
	a := newAuthor(5)
	lengths := map[int]int{}
	for i := range 1000 {
		s := settings[i%len(settings)]
		p, _ := a.piece(t, s.decls, s.typ, 5+a.Intn(12))
		q := a.changed(p)
		const rounds = 3
		want, isFirst := difference(t, p, q, rounds)
		play, first, err := tell.Differ(p, q)
		switch {
		case err == api.ErrSame || err == api.OK && len(play) > 2*rounds:
			if want != nil {
				t.Errorf("Differ(%s, %s): %s, error %d; want %s", p.Text(), q.Text(), show(play), err, show(want))
			}
		case err != api.OK || !slices.Equal(play, want) || first != isFirst:
			t.Errorf("Differ(%s, %s): %s, %t, error %d; want %s, %t", p.Text(), q.Text(), show(play), first, err, show(want), isFirst)
		}
		lengths[len(play)]++
	}
	for length := 0; length <= 6; length += 2 {
		if lengths[length] < 20 {
			t.Errorf("too few differences of %d moves: %v", length, lengths)
		}
	}
}
