package moves

import (
	"slices"

	"doppelganger/api"
	"doppelganger/lang"
)

// The places where no call waits.
const (
	ahead = -1 - iota // the piece is not asked yet
	over              // the play is over
)

// What comes next in a row.
const (
	begins = iota // the node at a place begins
	ends          // it ends, with a value
	moves         // the piece makes a move
	never         // the piece never makes one
)

// runner is the unfolded term of a piece, run from move to move.
type runner struct {
	places []place
	waits  int    // the place of the call that waits, ahead or over
	stack  []byte // as told at type place

	// Of the row of beats under way:
	next  int
	at    int // begins, ends: the place
	value int // ends: the value, 0 of a command
	made  api.Move
	beats int
	asked map[int]map[string]bool // for each While that has asked, the stacks ahead of it, in this run of it
}

func newRunner(p *lang.Piece) *runner {
	return &runner{places: unfold(p), waits: ahead}
}

// follows reports whether some moves are a play.
func (r *runner) follows(play []api.Move) bool {
	if len(play) == 0 || len(play)%2 != 0 {
		return false
	}
	for ; len(play) > 0; play = play[2:] {
		if !slices.Contains(r.options(), play[0]) {
			return false
		}
		if made, ok := r.reply(play[0]); !ok || made != play[1] {
			return false
		}
	}
	return true
}

// options returns the moves that the other side may make.
func (r *runner) options() []api.Move {
	switch r.waits {
	case ahead:
		return []api.Move{{}}
	case over:
		return nil
	}
	d := r.places[r.waits].decl
	return append(answers(api.Move{Name: d.Name}, d.Result), requests(*d)...)
}

// reply returns the move that the piece makes behind one of the options, and whether it makes one.
func (r *runner) reply(option api.Move) (made api.Move, ok bool) {
	r.beats, r.asked = 0, map[int]map[string]bool{}
	switch {
	case r.waits == ahead:
		r.begin(0)
	case option.Answer:
		r.at = r.waits
		r.end(option.Value)
	default:
		r.begin(r.places[r.waits].kids[option.Arg-1])
	}
	for {
		switch r.next {
		case begins:
			r.enter(&r.places[r.at])
		case ends:
			r.leave(&r.places[r.at])
		case moves:
			return r.made, true
		case never:
			return api.Move{}, false
		}
	}
}

func (r *runner) begin(at int) {
	r.next, r.at = begins, at
}

func (r *runner) end(value int) {
	r.next, r.value = ends, value
}

// move makes a move, behind which a call waits, or the play is over.
func (r *runner) move(made api.Move, waits int) {
	r.next, r.made, r.waits = moves, made, waits
}

func (r *runner) push(value int) {
	r.stack = append(r.stack, byte(value))
}

// drop takes all numbers from the stack but those ahead of a place.
func (r *runner) drop(p *place) {
	r.stack = r.stack[:p.height]
}

// enter begins the node at a place: a beat.
func (r *runner) enter(p *place) {
	if r.beats == api.MaxInner {
		panic(api.ErrFull)
	}
	r.beats++
	switch p.kind {
	case api.Skip:
		r.end(0)
	case api.Num:
		r.end(p.value)
	case api.Read:
		r.end(int(r.stack[p.slot]))
	case api.Stop:
		r.next = never
	case api.Fault:
		r.move(api.Move{Fault: true}, over)
	case api.While:
		delete(r.asked, r.at)
		r.ask(p)
	case api.Call:
		r.handOver(p, 0)
	case api.Exit:
		r.at = p.block
		r.drop(&r.places[r.at])
		r.end(0)
	default:
		r.begin(p.kids[0])
	}
}

// leave ends the node at a place, and goes on with the one whose kid it is.
func (r *runner) leave(p *place) {
	if p.outer == none {
		r.move(api.Move{Answer: true, Value: r.value}, over)
		return
	}
	r.at = p.outer
	outer := &r.places[r.at]
	switch {
	case outer.kind == api.Call:
		r.endArgument(outer, p.which)
	case p.which == 0:
		r.endFirst(outer)
	default:
		r.endLast(outer)
	}
}

// endFirst goes on behind the first kid of a node. A node of which nothing else is told here ends with it.
func (r *runner) endFirst(p *place) {
	switch p.kind {
	case api.Seq, api.Do:
		r.begin(p.kids[1])
	case api.If:
		if r.value != 0 {
			r.begin(p.kids[1])
		} else {
			r.begin(p.kids[2])
		}
	case api.While:
		if r.value != 0 {
			r.begin(p.kids[1])
		}
	case api.New, api.Add, api.Sub, api.Mul, api.Equal, api.Less:
		r.push(r.value)
		r.begin(p.kids[1])
	case api.Assign:
		r.stack[p.slot] = byte(r.value)
		r.end(0)
	}
}

// endLast goes on behind another kid of a node, that is no Call.
func (r *runner) endLast(p *place) {
	switch p.kind {
	case api.While:
		r.ask(p)
	case api.New:
		r.drop(p)
	case api.Add, api.Sub, api.Mul, api.Equal, api.Less:
		left := int(r.stack[p.height])
		r.drop(p)
		r.end(operated(p.kind, left, r.value))
	}
}

// ask asks the condition of the While at r.at. What is on the stack beside the
// variables is the same all the time that a While is run.
func (r *runner) ask(p *place) {
	if r.asked[r.at] == nil {
		r.asked[r.at] = map[string]bool{}
	}
	now := string(r.stack)
	if r.asked[r.at][now] {
		r.next = never
		return
	}
	r.asked[r.at][now] = true
	r.begin(p.kids[0])
}

// endArgument goes on behind an argument of the Call at r.at.
func (r *runner) endArgument(p *place, arg int) {
	if p.decl.Args[arg] == api.Val {
		r.push(r.value)
		r.handOver(p, arg+1)
		return
	}
	r.move(api.Move{Name: p.decl.Name, Arg: arg + 1, Answer: true, Value: r.value}, r.at)
}

// handOver runs the next argument by value of the Call at r.at, from some argument on; it asks if there is none.
func (r *runner) handOver(p *place, from int) {
	for arg := from; arg < len(p.kids); arg++ {
		if p.decl.Args[arg] == api.Val {
			r.begin(p.kids[arg])
			return
		}
	}
	question := api.Move{Name: p.decl.Name}
	for _, value := range slices.Backward(r.stack[p.height:]) {
		question.Value = question.Value*api.Width + int(value)
	}
	r.drop(p)
	r.move(question, r.at)
}

// operated returns what an operator makes of two numbers.
func operated(kind, left, right int) int {
	switch kind {
	case api.Add:
		return (left + right) % api.Width
	case api.Sub:
		return (left + api.Width - right) % api.Width
	case api.Mul:
		return left * right % api.Width
	case api.Equal:
		return truth(left == right)
	}
	return truth(left < right)
}

func truth(holds bool) int {
	if holds {
		return 1
	}
	return 0
}

// situation is where a piece waits, with what is on the stack then.
type situation struct {
	waits int
	stack string
}

// situation returns where the piece waits. What was on the stack when the play came to its end counts no more.
func (r *runner) situation() situation {
	if r.waits == over {
		return situation{waits: over}
	}
	return situation{waits: r.waits, stack: string(r.stack)}
}

// resume lets the piece wait in a situation.
func (r *runner) resume(s situation) {
	r.waits = s.waits
	r.stack = append(r.stack[:0], s.stack...)
}
