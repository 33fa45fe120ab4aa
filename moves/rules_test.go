package moves_test

import (
	"reflect"
	"slices"
	"testing"

	"doppelganger/api"
	"doppelganger/moves"
)

var ruled = []string{
	"f(com, val) : exp, p : com |- exp : new n = 1 [ f({ n := n + 1; p }, n) + f({ p }, 2) ]",
	"f(com) : com |- com : block k { f({ exit k }); fault }",
	"|- com : while 1 { skip }",
	"f(com) : com |- com : f({ block k { f({ exit k }) } })",
}

var asked = []api.Move{begin, asks("f", 0), wants("f", 1), gives("f", 1, 0), tells("f", 0), done}

// P3, P4: pieces are not changed, and each call comes to the same.
func TestCallsAreAlike(t *testing.T) {
	for _, text := range ruled {
		p := mustRead(t, text)
		nodes, decls := p.Nodes(), p.Decls()
		first, firstErr := moves.Plays(p)
		play := slices.Clone(asked)
		is, playErr := moves.Play(p, play)
		for range 3 {
			again, err := moves.Plays(p)
			if !reflect.DeepEqual(again, first) || err != firstErr {
				t.Errorf("%s: Plays comes to something else", text)
			}
			if other, err := moves.Play(p, play); other != is || err != playErr {
				t.Errorf("%s: Play comes to something else", text)
			}
		}
		if !reflect.DeepEqual(p.Nodes(), nodes) || !reflect.DeepEqual(p.Decls(), decls) || p.Text() != text {
			t.Errorf("%s: the piece is changed", text)
		}
		if !slices.Equal(play, asked) {
			t.Errorf("%s: the moves are changed", text)
		}
	}
}

// P3: machines share no memory with each other, nor one part of them with another one.
func TestMachinesAreCopied(t *testing.T) {
	for _, text := range ruled[:2] {
		want := mustPlays(t, text)
		for range 2 {
			m := mustPlays(t, text)
			if !reflect.DeepEqual(m, want) {
				t.Fatalf("%s: a machine is changed by another one", text)
			}
			for state := range m.Next {
				_ = append(m.Next[state], -7)
			}
			if !reflect.DeepEqual(m, want) {
				t.Fatalf("%s: rows share memory", text)
			}
			for state := range m.Next {
				for letter := range m.Next[state] {
					m.Next[state][letter] = -9
				}
				m.End[state] = !m.End[state]
			}
		}
	}
}

// P3: letters share no memory with each other.
func TestLettersAreCopied(t *testing.T) {
	decls := []api.Decl{{Name: "q", Args: []api.Type{api.Com}}, {Name: "p"}}
	want := moves.Letters(decls, api.Com)
	first := moves.Letters(decls, api.Com)
	for i := range first {
		first[i] = api.Move{Name: "zz"}
	}
	decls[0].Name = "z"
	if got := moves.Letters([]api.Decl{{Name: "q", Args: []api.Type{api.Com}}, {Name: "p"}}, api.Com); !slices.Equal(got, want) {
		t.Errorf("letters are changed by other ones")
	}
}
