package tell_test

import (
	"reflect"
	"slices"
	"testing"

	"doppelganger/api"
	"doppelganger/lang"
	"doppelganger/tell"
)

// all is what the functions return of two pieces.
type all struct {
	same    bool
	play    []api.Move
	first   bool
	witness string
	pairs   []api.Pair
	errs    []api.Errno
}

func resultsOf(p, q *lang.Piece, pairs []api.Pair) all {
	var r all
	errs := make([]api.Errno, 5)
	var c *lang.Piece
	r.same, errs[0] = tell.Same(p, q)
	r.play, r.first, errs[1] = tell.Differ(p, q)
	c, errs[2] = tell.Witness(p, q)
	r.pairs, errs[3] = tell.Certify(p, q)
	errs[4] = tell.Check(p, q, pairs)
	r.witness, r.errs = c.Text(), errs
	return r
}

var ruled = [][2]string{
	{"f(com, val) : exp, p : com |- exp : new n = 1 [ f({ n := n + 1; p }, n) + f({ p }, 2) ]", "f(com, val) : exp, p : com |- exp : f({ p }, 1) + f({ p }, 2)"},
	{"f(com, val) : exp, p : com |- exp : new n = 1 [ f({ n := n + 1; p }, n) ]", "f(com, val) : exp, p : com |- exp : f({ p }, 1)"},
	{"p : com |- com : p; fault", "p : com |- com : p"},
	{beyond, within},
	{within, "p : com |- com : p"},
}

// P3, P4: arguments are not changed, and each call comes to the same, whatever was called before.
func TestCallsAreAlike(t *testing.T) {
	for _, texts := range ruled {
		p, q := mustRead(t, texts[0]), mustRead(t, texts[1])
		pairs := []api.Pair{{A: 0, B: 0}, {A: 1, B: 1}}
		want := resultsOf(p, q, pairs)
		for range 3 {
			resultsOf(q, p, nil)
			resultsOf(p, p, nil)
			if got := resultsOf(p, q, pairs); !reflect.DeepEqual(got, want) {
				t.Errorf("%s, %s: %v; before it was %v", texts[0], texts[1], got, want)
			}
		}
		if p.Text() != texts[0] || q.Text() != texts[1] || !slices.Equal(pairs, []api.Pair{{A: 0, B: 0}, {A: 1, B: 1}}) {
			t.Errorf("%s, %s: an argument is changed", texts[0], texts[1])
		}
	}
}

// P3: results share no memory with each other.
func TestResultsAreCopied(t *testing.T) {
	for _, texts := range ruled[:3] {
		p, q := mustRead(t, texts[0]), mustRead(t, texts[1])
		want := resultsOf(p, q, nil)
		got := resultsOf(p, q, nil)
		for i := range got.play {
			got.play[i] = api.Move{Name: "zz"}
		}
		for i := range got.pairs {
			got.pairs[i] = api.Pair{A: -7, B: -7}
		}
		if again := resultsOf(p, q, nil); !reflect.DeepEqual(again, want) {
			t.Errorf("%s, %s: results are changed by other ones", texts[0], texts[1])
		}
	}
}

// P3, P4: Context does not change what it is given, nor see later changes, and does not mind the order of declarations.
func TestContextIsAlike(t *testing.T) {
	decls := []api.Decl{{Name: "p"}, {Name: "f", Args: []api.Type{api.Com, api.Val, api.Exp}, Result: api.Exp}}
	play := row("? f(2)? f.1? p? p!0 f.1!0 f.3? f.3!2 f!1 !0")
	before := slices.Clone(play)
	c, err := tell.Context(decls, api.Com, play)
	if err != api.OK {
		t.Fatalf("Context: error %d", err)
	}
	text := c.Text()
	if !slices.Equal(play, before) || decls[0].Name != "p" || !slices.Equal(decls[1].Args, []api.Type{api.Com, api.Val, api.Exp}) {
		t.Error("Context changes its arguments")
	}
	exchanged := []api.Decl{{Name: "f", Args: []api.Type{api.Com, api.Val, api.Exp}, Result: api.Exp}, {Name: "p"}}
	if other, err := tell.Context(exchanged, api.Com, play); err != api.OK || other.Text() != text {
		t.Errorf("with the declarations exchanged: %s, error %d; want %s", other.Text(), err, text)
	}
	for i := range play {
		play[i] = api.Move{Name: "zz"}
	}
	decls[1].Args[0], decls[0].Name = api.Exp, "zz"
	if c.Text() != text {
		t.Error("a context is changed by later changes")
	}
	nodes := c.Nodes()
	for i := range nodes {
		nodes[i].Kids, nodes[i].Name = nil, "zz"
	}
	if again, err := tell.Context(exchanged, api.Com, before); err != api.OK || again.Text() != text || c.Text() != text {
		t.Error("Context comes to something else")
	}
}
