package tell

import (
	"doppelganger/api"
	"doppelganger/lang"
)

// hole is the declared name for which a piece is filled in.
const hole = "hole"

// maker makes a context that follows a play, round by round: a round is a move of
// the other side, and the one that the piece makes then. The number of the round
// under way stands in variables of the context, so it stays as it is when calls
// are left. A move of the piece that is not the one of this round is followed by
// nothing: the program never ends.
type maker struct {
	names
	typ    api.Type // of the pieces
	rounds int
	called []*called
	given  table // whether the answer of the piece is the right one
	last   table // whether the round is the last one, if it does not end with the fault
}

// table is what is to be done at each round: a function that returns an
// expression, nil where nothing is to be done.
type table []func() *term

// called is what the context does when a declared name is called.
type called struct {
	api.Decl
	right   table // whether the call is the right one
	turns   table // the number of the argument about which is asked next, if any is
	replies table // the answer to the call, if it is not 0
	args    [api.MaxArgs]argument
}

// argument is an argument by name of what is called.
type argument struct {
	asked bool  // whether it is asked about at all
	given table // whether its answer is the right one
}

// around returns a context that follows a possible play of pieces with the declarations and the type of p.
func around(p *lang.Piece, play []api.Move) (*lang.Piece, api.Errno) {
	rounds := len(play) / 2
	if rounds > api.MaxNodes {
		return nil, api.ErrFull // each round has a node of its own
	}
	m := newMaker(p, rounds)
	for round := range rounds {
		if round > 0 {
			m.move(round, play[2*round])
		}
		m.expect(round, play[2*round+1])
	}
	return lang.Build([]api.Decl{{Name: hole, Result: m.typ}}, api.Com, m.program().list(nil))
}

func newMaker(p *lang.Piece, rounds int) *maker {
	decls := p.Decls()
	m := &maker{names: newNames(decls, rounds), typ: p.Type(), rounds: rounds}
	m.given, m.last = make(table, rounds), make(table, rounds)
	for _, d := range decls {
		c := &called{Decl: d}
		c.right, c.turns, c.replies = make(table, rounds), make(table, rounds), make(table, rounds)
		for i := range c.args {
			c.args[i].given = make(table, rounds)
		}
		m.called = append(m.called, c)
	}
	return m
}

// move notes the move of the other side at a round.
func (m *maker) move(round int, move api.Move) {
	c := m.find(move.Name)
	switch {
	case !move.Answer:
		c.args[move.Arg-1].asked = true
		c.turns[round] = func() *term { return number(move.Arg) }
	case move.Value != 0:
		c.replies[round] = func() *term { return number(move.Value) }
	}
}

// expect notes the move of the piece at a round. The fault needs no program around.
func (m *maker) expect(round int, move api.Move) {
	if move.Fault {
		return
	}
	if round == m.rounds-1 {
		m.last[round] = func() *term { return number(1) }
	}
	if kind(move) == thePiece {
		m.given[round] = func() *term { return m.isAnswer(m.typ, move.Value) }
		return
	}
	c := m.find(move.Name)
	if kind(move) == aName {
		c.right[round] = func() *term { return m.haveValues(c.Args, move.Value) }
		return
	}
	at := move.Arg - 1
	c.args[at].given[round] = func() *term { return m.isAnswer(c.Args[at], move.Value) }
}

// find returns what is called by a declared name.
func (m *maker) find(name string) *called {
	for _, c := range m.called {
		if c.Name == name {
			return c
		}
	}
	return nil
}
