package play_test

import (
	"fmt"
	"math/rand"
	"strings"
	"testing"

	"doppelganger/api"
	"doppelganger/lang"
)

// fits reports whether a text is a program within the limits.
func fits(text string) bool {
	_, err := lang.Read("|- " + text)
	return err == api.OK
}

// P2.1 to P2.5: what comes of random programs is what the reference says.
func TestRandomPrograms(t *testing.T) {
	met := map[string]int{}
	for seed := range 8000 {
		m := &maker{Rand: rand.New(rand.NewSource(int64(seed))), left: 10 + seed%60, stops: true}
		text := "com : new a = 1 { new b = 2 { " + m.within(m.com, bound{name: "a", sort: 'v'}, bound{name: "b", sort: 'v'}) + " } }"
		if seed%2 == 1 {
			text = "exp : " + m.exp()
		}
		if !fits(text) {
			continue
		}
		got := run(t, text)
		want := refer(mustRead(t, "|- "+text).Nodes(), api.MaxSteps, true)
		if got != want {
			t.Fatalf("%s: %+v; want %+v", text, got, want)
		}
		met[fmt.Sprint(got.result, got.err)]++
		if got == never && seed%16 < 2 {
			wantEndless(t, text)
		}
	}
	for _, kind := range []string{"0 0", "1 0", "2 0"} {
		if met[kind] < 50 {
			t.Errorf("the random programs come too seldom to %s: %v", kind, met)
		}
	}
}

// wantEndless checks that a program of which Never is told does not end within more steps (P2.10).
func wantEndless(t *testing.T, text string) {
	t.Helper()
	got := refer(mustRead(t, "|- "+text).Nodes(), 2*api.MaxSteps, false)
	if got != never && got != failed(api.ErrFull) {
		t.Errorf("%s: Never is told, but it comes to %+v", text, got)
	}
}

// P2.6: rows.
func TestRows(t *testing.T) {
	for seed := range 3000 {
		m := &maker{Rand: rand.New(rand.NewSource(int64(seed))), left: 20, stops: true}
		a := m.com()
		m.left = 20
		b := m.com()
		if !fits("com : " + a + "; block z { " + b + " }") {
			continue
		}
		// A block around each of them makes two rows one row of two steps.
		first, second := run(t, "com : block z { "+a+" }"), run(t, "com : block z { "+b+" }")
		if first.err != api.OK || second.err != api.OK {
			continue
		}
		both := run(t, "com : block z { "+a+" }; block z { "+b+" }")
		want := first
		switch {
		case first.result == api.Done && second.result == api.Never:
			want = never
		case first.result == api.Done:
			want = outcome{result: second.result, steps: 1 + first.steps + second.steps}
		case first.result == api.Faulted:
			want = faulted(1 + first.steps)
		}
		if both != want {
			t.Fatalf("%s; %s: %+v and %+v, but both %+v", a, b, first, second, both)
		}
	}
}

// P2.7: turns. All that comes of the While is seen: its end, and the variables then.
func TestTurns(t *testing.T) {
	ended := 0
	for seed := range 5000 {
		m := &maker{Rand: rand.New(rand.NewSource(int64(seed))), stops: true}
		m.names = []bound{{name: "x", sort: 'v'}, {name: "y", sort: 'v'}, {name: "k", sort: 'l'}}
		m.left = 8
		test := m.exp()
		m.left = 16
		body := m.com()
		while := "while " + test + " { " + body + " }"
		turn := "if " + test + " { " + body + "; " + while + " } { skip }"
		around := func(inner string) string {
			return fmt.Sprintf("exp : new x = %d [ new y = %d [ do { block k { %s; y := y + 1 } } [ if x == %d [ y ] [ y == %d ] ] ] ]",
				seed/4%4, seed%4, inner, seed%3, seed%4)
		}
		if sameEnd(t, around(while), around(turn)) {
			ended++
		}
	}
	if ended < 100 {
		t.Errorf("only %d of the loops end", ended)
	}
}

// sameEnd checks that two programs come to the same, unless a limit is exceeded, and reports whether they are done.
func sameEnd(t *testing.T, a, b string) bool {
	t.Helper()
	if !fits(a) || !fits(b) {
		return false
	}
	first, second := run(t, a), run(t, b)
	if first.err != api.OK || second.err != api.OK {
		return false
	}
	if first.result != second.result || first.value != second.value {
		t.Fatalf("%s: %+v, but %s: %+v", a, first, b, second)
	}
	return first.result == api.Done
}

// P2.8: names and values. The body's own names are a to h, those of the arguments x, y, k, and the parameters pa, pb, pc.
func TestNamesAndValues(t *testing.T) {
	ended := 0
	for seed := range 5000 {
		m := &maker{Rand: rand.New(rand.NewSource(int64(seed))), stops: true}
		m.names = []bound{{name: "x", sort: 'v'}, {name: "y", sort: 'v'}, {name: "k", sort: 'l'}}
		m.left = 5
		command, byName, byValue := m.com(), m.exp(), m.exp()
		m.names = []bound{{name: "x", sort: 'v'}, {name: "pa", sort: 'c'}, {name: "pb", sort: 'c', result: api.Exp}, {name: "pc", sort: 'v'}}
		m.left = 25
		body := m.com()
		call := "proc f(pa : com, pb : exp, pc : val) : com { " + body + " } { f({ " + command + " }, " + byName + ", " + byValue + ") }"
		placed := strings.NewReplacer("pa", "block z { "+command+" }", "pb", "("+byName+")").Replace(body)
		inner := "new pc = " + byValue + " { " + placed + " }"
		around := func(inner string) string {
			return "exp : new x = 1 [ new y = 2 [ do { block k { " + inner + "; y := y + 1 } } [ x * 2 + y ] ] ]"
		}
		if sameEnd(t, around(call), around(inner)) {
			ended++
		}
	}
	if ended < 100 {
		t.Errorf("only %d of the calls end", ended)
	}
}

// P2.9: blocks.
func TestBlocks(t *testing.T) {
	for seed := range 3000 {
		m := &maker{Rand: rand.New(rand.NewSource(int64(seed))), left: 25, stops: true}
		a := m.com()
		if !fits("com : block z { exit z; block y { " + a + " } }") {
			continue
		}
		wantRun(t, "com : block z { exit z; block y { "+a+" } }", done(0, 3))
		bare := run(t, "com : "+a)
		if bare.err != api.OK {
			continue
		}
		if bare.result != api.Never {
			bare.steps++
		}
		wantRun(t, "com : block z { "+a+" }", bare)
	}
}
