package moves_test

import (
	"fmt"
	"reflect"
	"strings"
	"testing"

	"doppelganger/api"
	"doppelganger/auto"
	"doppelganger/moves"
)

// again lets what counting makes begin anew.
const again = "a := 0; b := 0; c := 0; d := 0; e := 0; z := 0"

// counting is a term that does something again and again, with its variables as the numbers from 0 to count - 1, and then something last.
func counting(count int, turn, last string) string {
	var tests []string
	step, names := "skip", "abcdez"
	for i := len(names) - 1; i >= 0; i-- {
		name := names[i : i+1]
		step = fmt.Sprintf("%s := %s + 1; if %s { skip } { %s }", name, name, name, step)
	}
	for i := range len(names) {
		tests = append(tests, fmt.Sprintf("(%c == %d)", names[i], count>>(2*i)%api.Width))
	}
	text := "while 1 { " + turn + "; " + step + "; if " + strings.Join(tests, " * ") + " { " + last + " } { skip } }"
	for i := range len(names) {
		text = "new " + names[i:i+1] + " = 0 { " + text + " }"
	}
	return text
}

// wantMost checks that a piece has a machine if something is done so often that there are just no more than MaxStates situations, and that it has none if it is done once more.
func wantMost(t *testing.T, decls, turn string, each int) {
	t.Helper()
	most := api.MaxStates / each
	mustPlays(t, decls+" |- com : "+counting(most, turn, again))
	p := mustRead(t, decls+" |- com : "+counting(most+1, turn, again))
	if m, err := moves.Plays(p); err != api.ErrFull || !reflect.DeepEqual(m, api.Machine{}) {
		t.Errorf("%s, %d times: %d states, error %d; want ErrFull alone", turn, most+1, len(m.Next), err)
	}
}

// P4.5: the values of all open variables belong to a situation, also of those that are not read, and of no others.
func TestOpenVariables(t *testing.T) {
	wantMost(t, "p : com", "p", 1)
	wantMost(t, "p : com", "p; p", 2)
	wantMost(t, "p : com, x : exp", "new v = x { p }", 1+4)
	wantMost(t, "p : com, x : exp", "new v = x { skip }; p", 1+1)
	wantMost(t, "p : com, x : exp", "new v = x { new w = x { p } }", 1+4+16)
	wantMost(t, "p : com, x : exp", "new v = x { new v = x { p } }", 1+4+16)
	wantMost(t, "p : com, x : exp", "new v = x { v := 0; p }", 1+1)
	wantMost(t, "p : com, x : exp", "proc g(v : val, w : val) : com { p } { g(x, x) }", 1+4+16)
	wantMost(t, "p : com, x : exp", "new v = x { proc g() : com { p } { g; g } }", 1+4+4)
	wantMost(t, "f(com) : com, p : com, x : exp", "new v = x { f({ p }) }", 1+4+4)
	wantMost(t, "f(com) : com, p : com, x : exp", "f({ new v = x { p } })", 1+1+4)
}

// P4.5: the values of left operands that stay open belong to a situation.
func TestOpenOperands(t *testing.T) {
	for _, mark := range []string{"+", "-", "*", "==", "<"} {
		wantMost(t, "x : exp", "a := a + 0 * (x "+mark+" x)", 1+4)
	}
	wantMost(t, "x : exp", "a := a + 0 * ((x + x) + (x + x))", 1+4+4+16)
	wantMost(t, "p : com, x : exp", "a := a + 0 * ((x + x) + do { p } [ 1 ])", 1+4+4)
	wantMost(t, "f(com) : exp, p : com, x : exp", "a := a + 0 * (x + f({ p }))", 1+4+4)
	wantMost(t, "p : com, x : exp", "a := a + 0 * x; p", 1+1)
	// so many sums are too many, although there are but four of them
	mustPlays(t, "x : exp |- exp : x + (x + (x + (x + (x + x))))")
	wantFull(t, "x : exp |- exp : x + (x + (x + (x + (x + (x + x)))))")
	wantSame(t, "x : exp |- exp : x + (x + (x + (x + (x + x))))", "x : exp |- exp : x + x + x + x + x + x")
	mustPlays(t, "x : exp |- exp : x + x + x + x + x + x + x")
}

// P4.5: the values of arguments by value belong to a situation while later ones are run, and not behind the question.
func TestOpenArguments(t *testing.T) {
	wantMost(t, "f(val, val) : com, x : exp", "f(x, x)", 1+4+1)
	wantMost(t, "f(val, val, val) : com, x : exp", "f(x, x, x)", 1+4+16+1)
	wantMost(t, "f(val, com) : com, p : com, x : exp", "f(x, { p })", 1+1+1)
	wantMost(t, "f(val, com, val) : com, p : com, x : exp", "f(x, { p }, x)", 1+4+1+1)
	wantMost(t, "f(val, val) : com, g(com) : exp, p : com, x : exp", "f(x, g({ p }))", 1+4+4+1)
	wantMost(t, "f(val, val) : exp, x : exp", "a := a + 0 * f(x, f(x, x))", 1+4+16+4+1)
	wantMost(t, "f(val, val) : exp, x : exp", "a := a + 0 * f(x, x + x)", 1+4+16+1)
}

// P4.7: the machine is the least one, however many situations it stands for.
func TestLeastMachine(t *testing.T) {
	wantSame(t, "p : com |- com : while 1 { p }", "p : com |- com : "+counting(api.MaxStates, "p", again))
	wantStates(t, "p : com |- com : "+counting(api.MaxStates, "p", again), 3)
	wantStates(t, "x : exp |- com : "+counting(api.MaxStates, "new v = x { if v { skip } { skip } }", again), 3)
	wantStates(t, "f(com, com) : com |- com : "+counting(api.MaxStates, "f({ skip }, { skip })", again), 5)
	wantStates(t, "x : exp |- exp : new y = x [ y + y ]", 1+1+1+2+1)
	wantStates(t, "p : com |- com : if 1 { p; p } { fault }", 7)
}

// P4.7: the least machine has MaxStates states, or more.
func TestMostStates(t *testing.T) {
	wantStates(t, "p : com |- com : block out { "+counting(1998, "p", "exit out")+" }", 3999)
	wantStates(t, "p : com, x : exp |- com : block out { "+counting(1997, "p", "exit out")+" }; if x { skip } { fault }", 4000)
	wantFull(t, "p : com |- com : block out { "+counting(1999, "p", "exit out")+" }")
	wantFull(t, "p : com, x : exp |- com : block out { "+counting(1998, "p", "exit out")+" }; if x { skip } { fault }")
	wantFull(t, "p : com |- com : block out { "+counting(3999, "p", "exit out")+" }")
}

// P4.7: a machine that is made of many situations tells each of their plays.
func TestLongPlays(t *testing.T) {
	p := mustRead(t, "p : com |- com : block out { "+counting(1500, "p", "exit out")+" }; fault")
	m := mustPlays(t, p.Text())
	play := []int{0}
	for range 1500 {
		play = append(play, 3, 4)
	}
	for end, want := range map[int]bool{1: false, 2: true, 3: false} {
		w := append(play, end)
		if auto.Accepts(m, w) != want {
			t.Errorf("1500 calls and the letter %d: %t", end, !want)
		}
		wantPlay(t, p, row(p, w), want)
	}
}
