package play_test

import (
	"fmt"
	"testing"

	"doppelganger/api"
	"doppelganger/lang"
	"doppelganger/play"
)

// P2.5, P1: what is no program.
func TestNoProgram(t *testing.T) {
	for _, p := range []*lang.Piece{
		nil, {}, new(lang.Piece),
		mustRead(t, "p : com |- com : skip"),
		mustRead(t, "p : com |- com : p"),
		mustRead(t, "p : com |- com : while 1 { skip }"),
		mustRead(t, "x : exp |- exp : x + x"),
		mustRead(t, "f(com, val) : exp |- exp : 1"),
		mustRead(t, "hole : com |- com : hole"),
		mustRead(t, "a : com, b : com, c : com, d : com |- com : fault"),
	} {
		result, value, steps, err := play.Run(p)
		if (outcome{result, value, steps, err}) != failed(api.ErrArg) {
			t.Errorf("Run(%q): %d, %d, %d, %d; want ErrArg alone", p.Text(), result, value, steps, err)
		}
	}
}

// P3, P4: a piece is not changed by a run, and each run of it comes to the same.
func TestRunsAreAlike(t *testing.T) {
	for _, text := range []string{
		"exp : new n = 0 [ do { block k { while 1 { n := n + 1; if n == 2 { exit k } { skip } } } } [ n ] ]",
		"com : proc f(x : com, v : val) : com { x; fault } { new y = 1 { f({ y := 2 }, y) } }",
		"com : new x = 0 { while 1 { x := x + 1 } }",
		"com : " + counter(7),
	} {
		p := mustRead(t, "|- "+text)
		before := p.Text() + fmt.Sprint(p.Nodes())
		first := run(t, text)
		for range 3 {
			var again outcome
			again.result, again.value, again.steps, again.err = play.Run(p)
			if again != first || p.Text()+fmt.Sprint(p.Nodes()) != before {
				t.Errorf("%s: %+v, then %+v, or the piece is changed", text, first, again)
			}
		}
	}
}

// P1: a program whose calls stand within each other thousands of times, each in
// a Block, with a variable: an Exit out of all of them, and a limit within them.
func TestDeepCalls(t *testing.T) {
	wantRun(t, "com : "+deep(10, "exit out"), done(0, 4617))
	wantRun(t, "com : "+deep(10, "fault"), faulted(4617))
	wantRun(t, "com : "+deep(10, "stop"), never)
	wantRun(t, "com : "+deep(10, "while 1 { skip }"), never)
	wantRun(t, "com : "+deep(13, "exit out"), failed(api.ErrFull))
}

// deep runs the last command within 2 to the power of count - 1 runs of the same Block.
func deep(count int, last string) string {
	text, closing := "block out { proc a(x : com, v : val) : com { block k { new w = v { x } } } { ", " } }"
	name := "a"
	for i := 1; i < count; i++ {
		next := string(rune('a' + i))
		text += "proc " + next + "(x : com, v : val) : com { " + name + "({ " + name + "({ x }, 2) }, v) } { "
		closing += " }"
		name = next
	}
	return text + name + "({ " + last + " }, 1)" + closing
}
