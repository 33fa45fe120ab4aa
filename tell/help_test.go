package tell_test

import (
	"slices"
	"strconv"
	"strings"
	"testing"

	"doppelganger/api"
	"doppelganger/lang"
	"doppelganger/moves"
	"doppelganger/play"
	"doppelganger/tell"
)

// mustRead reads a text that is right.
func mustRead(t *testing.T, text string) *lang.Piece {
	t.Helper()
	p, err := lang.Read(text)
	if err != api.OK {
		t.Fatalf("Read(%.300q): error %d", text, err)
	}
	return p
}

// fault is the move that is written "fault".
var fault = api.Move{Fault: true}

// move is the move of a text: "?", "!v", "fault", "f?", "f(v,w)?", "f!v", "f.i?" or "f.i!v".
func move(text string) api.Move {
	if text == "fault" {
		return fault
	}
	end := strings.IndexAny(text, "?!")
	m := api.Move{Name: text[:end], Answer: text[end] == '!'}
	if m.Answer {
		m.Value = digit(text[end+1:])
	}
	if name, arg, ok := strings.Cut(m.Name, "."); ok {
		m.Name, m.Arg = name, digit(arg)
	}
	if name, values, ok := strings.Cut(m.Name, "("); ok {
		m.Name = name
		weight := 1
		for value := range strings.SplitSeq(strings.TrimSuffix(values, ")"), ",") {
			m.Value += weight * digit(value)
			weight *= api.Width
		}
	}
	return m
}

func digit(text string) int {
	value, err := strconv.Atoi(text)
	if err != nil {
		panic(err)
	}
	return value
}

// row is the moves of a text, separated by spaces.
func row(text string) []api.Move {
	var list []api.Move
	for _, field := range strings.Fields(text) {
		list = append(list, move(field))
	}
	return list
}

// show returns the text of some moves; a question's values stand as one number.
func show(play []api.Move) string {
	var list []string
	for _, m := range play {
		text := m.Name
		if m.Arg > 0 {
			text += "." + strconv.Itoa(m.Arg)
		}
		switch {
		case m.Fault:
			text = "fault"
		case m.Answer:
			text += "!" + strconv.Itoa(m.Value)
		case m.Value > 0:
			text += "(" + strconv.Itoa(m.Value) + ")?"
		default:
			text += "?"
		}
		list = append(list, text)
	}
	return strings.Join(list, " ")
}

// plays reports whether a piece has a play.
func plays(t *testing.T, p *lang.Piece, play []api.Move) bool {
	t.Helper()
	is, err := moves.Play(p, play)
	if err != api.OK {
		t.Fatalf("Play(%.300q): error %d", p.Text(), err)
	}
	return is
}

// faultsAlong reports whether a piece has a play that ends with the fault and is, without that, a beginning of a play.
func faultsAlong(t *testing.T, p *lang.Piece, play []api.Move) bool {
	t.Helper()
	for i := 1; i < len(play); i += 2 {
		if plays(t, p, append(slices.Clone(play[:i]), fault)) {
			return true
		}
	}
	return false
}

// mustContext returns a context, and checks what P5.4 asks for.
func mustContext(t *testing.T, p *lang.Piece, play []api.Move) *lang.Piece {
	t.Helper()
	c, err := tell.Context(p.Decls(), p.Type(), play)
	if err != api.OK {
		t.Fatalf("Context(%.100q, %s): error %d", p.Text(), show(play), err)
	}
	wantContext(t, c, p.Type(), len(play))
	return c
}

// wantContext checks the form of a context: its type, its only declaration, its hole, and how great it is.
func wantContext(t *testing.T, c *lang.Piece, typ api.Type, moves int) {
	t.Helper()
	decls := c.Decls()
	if c.Type() != api.Com || len(decls) != 1 || decls[0].Name != "hole" || len(decls[0].Args) != 0 || decls[0].Result != typ {
		t.Errorf("no context with a hole: %s", c.Text())
	}
	nodes := c.Nodes()
	var holes []int
	for at, n := range nodes {
		if n.Kind == api.Call && n.Name == "hole" {
			holes = append(holes, at)
		}
	}
	if len(holes) != 1 {
		t.Fatalf("hole is called at %d places: %s", len(holes), c.Text())
	}
	if moves <= 12 && (len(nodes) > 400 || levels(nodes)[holes[0]] > 12) {
		t.Errorf("%d moves: %d nodes, hole at level %d", moves, len(nodes), levels(nodes)[holes[0]])
	}
}

// levels returns the level at which each node stands (P1.4).
func levels(nodes []api.Node) []int {
	level := make([]int, len(nodes))
	level[0] = 1
	for at, n := range nodes {
		for i, kid := range n.Kids {
			level[kid] = level[at] + 1
			if i == 0 && n.Kind == api.Seq && nodes[kid].Kind == api.Seq {
				level[kid] = level[at]
			}
		}
	}
	return level
}

// outcome is what comes of a program that is no longer than a run may be: Done, Faulted or Never, with the value.
type outcome struct {
	result api.Result
	value  int
}

var (
	faulted = outcome{result: api.Faulted}
	never   = outcome{result: api.Never}
)

// filled returns what comes of a context with a piece in it; it reports false if a limit is exceeded.
func filled(t *testing.T, context, p *lang.Piece) (outcome, bool) {
	t.Helper()
	program, err := lang.Fill(context, p)
	if err == api.ErrFull {
		return outcome{}, false
	}
	if err != api.OK || len(program.Decls()) != 0 {
		t.Fatalf("Fill(%s, %s): error %d", context.Text(), p.Text(), err)
	}
	result, value, _, err := play.Run(program)
	if err != api.OK && err != api.ErrFull {
		t.Fatalf("Run(%s): error %d", program.Text(), err)
	}
	return outcome{result, value}, err == api.OK
}

// wantFollowed checks what comes of the context of a play with a piece in it, and returns it.
func wantFollowed(t *testing.T, p *lang.Piece, play []api.Move) outcome {
	t.Helper()
	want := never
	if plays(t, p, play) || faultsAlong(t, p, play) {
		want = faulted
	}
	c := mustContext(t, p, play)
	if got, ok := filled(t, c, p); got != want || !ok {
		t.Errorf("the context of %s, with %s in it: %v, %t; want %v\n%s", show(play), p.Text(), got, ok, want, c.Text())
	}
	return want
}

// chain is a piece that asks x some times, and goes on only if it always has the value that it asks for; then it has a value.
func chain(count int, value string) string {
	text := value
	for i := range count {
		text = "if x == " + strconv.Itoa((count-i)%api.Width) + " [ " + text + " ] [ stop ]"
	}
	return "x : exp |- exp : " + text
}

// counter is a command that asks for a number some times, at most 4095.
func counter(count int, asked string) string {
	digits := []string{"a", "b", "c", "d", "e", "g"}
	var tests []string
	for _, digit := range digits {
		tests = append(tests, "("+digit+" == "+strconv.Itoa(count%api.Width)+")")
		count /= api.Width
	}
	next := "skip"
	for _, digit := range slices.Backward(digits) {
		next = digit + " := " + digit + " + 1; if " + digit + " { skip } { " + next + " }"
	}
	text := "while " + strings.Join(tests, " * ") + " == 0 { new v = " + asked + " { skip }; " + next + " }"
	for _, digit := range digits {
		text = "new " + digit + " = 0 { " + text + " }"
	}
	return text
}
