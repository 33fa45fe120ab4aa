package play_test

import (
	"strings"
	"testing"

	"doppelganger/api"
	"doppelganger/lang"
	"doppelganger/play"
)

// outcome is all that Run tells.
type outcome struct {
	result       api.Result
	value, steps int
	err          api.Errno
}

func done(value, steps int) outcome { return outcome{api.Done, value, steps, api.OK} }
func faulted(steps int) outcome     { return outcome{result: api.Faulted, steps: steps} }
func failed(err api.Errno) outcome  { return outcome{err: err} }

var never = outcome{}

// mustRead reads a text that is right.
func mustRead(t *testing.T, text string) *lang.Piece {
	t.Helper()
	p, err := lang.Read(text)
	if err != api.OK {
		t.Fatalf("Read(%.300q): error %d", text, err)
	}
	return p
}

// run runs a program without its "|- ".
func run(t *testing.T, text string) outcome {
	t.Helper()
	var o outcome
	o.result, o.value, o.steps, o.err = play.Run(mustRead(t, "|- "+text))
	return o
}

// wantRun checks what comes of a program.
func wantRun(t *testing.T, text string, want outcome) {
	t.Helper()
	if got := run(t, text); got != want {
		t.Errorf("%.400s: %+v; want %+v", text, got, want)
	}
}

// check is a program and what should come of it.
type check struct {
	text string
	want outcome
}

func wantRuns(t *testing.T, checks []check) {
	t.Helper()
	for _, c := range checks {
		wantRun(t, c.text, c.want)
	}
}

// row is a row of some equal steps.
func row(count int, step string) string {
	return step + strings.Repeat("; "+step, count-1)
}

// after is a command that makes just some steps, at least 30, and begins the last command then.
func after(steps int, last string) string {
	const hundred = 100 // a: the call, 50 times skip, and what joins them
	const many = 2020   // b: the call, 20 times a, and what joins them
	left := steps - 2   // for both Proc
	var items []string
	add := func(item string, cost int) {
		items = append(items, item)
		left -= cost + 1
	}
	for left > many+10 {
		add("b", many)
	}
	for left > hundred+10 {
		add("a", hundred)
	}
	if left%2 == 1 {
		add("while 0 { skip }", 2)
	}
	for left > 0 {
		add("skip", 1)
	}
	return "proc a() : com { " + row(50, "skip") + " } { proc b() : com { " + row(20, "a") + " } { " +
		strings.Join(append(items, last), "; ") + " } }"
}
