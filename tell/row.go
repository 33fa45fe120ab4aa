package tell

import "doppelganger/api"

// The kinds of what is open, or of what an answer belongs to.
const (
	thePiece   = iota // the question about the piece
	aName             // a question about a name
	anArgument        // a question about an argument of a name
)

// kind returns what a move is about; the fault is about nothing.
func kind(m api.Move) int {
	switch {
	case m.Arg != 0:
		return anArgument
	case m.Name != "":
		return aName
	}
	return thePiece
}

// row is a row of moves as far as it was followed.
type row struct {
	open []api.Move // the questions that are open, without values, the last one last; none when the play is over
}

// isPossible reports whether some moves, among which are those of the letters alone, may be a play.
func isPossible(letters, play []api.Move) bool {
	if len(play) == 0 || len(play)%2 != 0 || play[0] != (api.Move{}) {
		return false
	}
	known := map[api.Move]bool{}
	for _, letter := range letters {
		known[letter] = true
	}
	r := row{open: []api.Move{{}}}
	for i, m := range play[1:] {
		follow := r.piece
		if i%2 != 0 {
			follow = r.other
		}
		if !known[m] || !follow(m) {
			return false
		}
	}
	return true
}

// piece follows a move of the piece, and reports whether it may be made.
func (r *row) piece(m api.Move) bool {
	switch {
	case m == api.Move{Fault: true}:
		r.open = nil
		return true
	case !m.Answer:
		r.open = append(r.open, about(m))
		return kind(m) == aName
	}
	return kind(m) != aName && r.leave(about(m))
}

// leave closes the last question that is like one, and all behind it, and reports whether there is one.
func (r *row) leave(question api.Move) bool {
	for i := len(r.open) - 1; i >= 0; i-- {
		if r.open[i] == question {
			r.open = r.open[:i]
			return true
		}
	}
	return false
}

// other follows a move of the other side, and reports whether it may be made. Behind a move of the piece the last open question is about a name, unless the play is over.
func (r *row) other(m api.Move) bool {
	if len(r.open) == 0 {
		return false
	}
	last := len(r.open) - 1
	waits := r.open[last]
	if m.Answer {
		r.open = r.open[:last]
		return about(m) == waits
	}
	r.open = append(r.open, m)
	return kind(m) == anArgument && m.Name == waits.Name
}

// about returns the question about what a move is about, without values.
func about(m api.Move) api.Move {
	return api.Move{Name: m.Name, Arg: m.Arg}
}
