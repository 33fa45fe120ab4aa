package lang_test

import (
	"testing"

	"doppelganger/api"
	"doppelganger/lang"
)

// P1: nil and zero pieces.
func TestNoPiece(t *testing.T) {
	for _, p := range []*lang.Piece{nil, {}, new(lang.Piece)} {
		if p.Text() != "" || len(p.Decls()) != 0 || p.Type() != api.Com || len(p.Nodes()) != 0 {
			t.Errorf("a piece that is none has a text, declarations, a type or nodes")
		}
	}
}

// P3: arguments are not kept in a way that lets a later change be observed, and not changed.
func TestArgumentsAreCopied(t *testing.T) {
	decls := []api.Decl{{Name: "q", Args: []api.Type{api.Com}}, {Name: "p"}}
	nodes := []api.Node{
		{Kind: api.Proc, Name: "f", Params: []api.Param{{Name: "a"}, {Name: "b", Type: api.Val}}, Kids: []int{1, 4}},
		{Kind: api.Seq, Kids: []int{2, 3}}, {Kind: api.Call, Name: "a"}, {Kind: api.Skip},
		{Kind: api.Call, Name: "q", Kids: []int{5}}, {Kind: api.Call, Name: "p"},
	}
	before := show(nodes)
	p, err := lang.Build(decls, api.Com, nodes)
	if err != api.OK || show(nodes) != before || decls[0].Name != "q" {
		t.Fatalf("Build: error %d, or its arguments are changed", err)
	}
	want := "p : com, q(com) : com |- com : proc f(a : com, b : val) : com { a; skip } { q({ p }) }"
	decls[0].Name, decls[1].Result, decls[0].Args[0] = "z", api.Exp, api.Val
	nodes[0].Params[0].Name, nodes[0].Kids[0], nodes[2].Name, nodes[3].Kind = "z", 9, "z", api.Stop
	if p.Text() != want {
		t.Errorf("a piece is changed by its arguments: %q", p.Text())
	}
}

// P3: results share no memory with pieces, or with each other.
func TestResultsAreCopied(t *testing.T) {
	text := "f(com, exp) : com, p : com |- com : proc g(a : com, b : val) : com { a; a } { g({ p }, 1); f({ skip }, 2) }"
	p := mustRead(t, text)
	filled, err := lang.Fill(mustRead(t, "f(com, exp) : com, hole : com, p : com |- com : hole"), p)
	if err != api.OK {
		t.Fatalf("Fill: error %d", err)
	}
	for _, q := range []*lang.Piece{p, filled} {
		decls, nodes := q.Decls(), q.Nodes()
		for i := range nodes {
			n := &nodes[i]
			for j := range n.Kids {
				n.Kids[j] = -1
			}
			n.Kids = append(n.Kids, -2)
			for j := range n.Params {
				n.Params[j].Name = "zz"
			}
			n.Params = append(n.Params, api.Param{Name: "zz"})
			n.Name = "zz"
		}
		for i, d := range decls {
			for j := range d.Args {
				d.Args[j] = api.Val
			}
			decls[i] = api.Decl{Name: "zz", Args: append(d.Args, api.Val)}
		}
		if p.Text() != text || filled.Text() != text || len(p.Decls()[0].Args) != 2 || p.Decls()[0].Name != "f" {
			t.Fatalf("a piece is changed by its results: %q, %q", p.Text(), filled.Text())
		}
		for i, n := range p.Nodes() {
			for j, kid := range n.Kids {
				if kid <= i || j == 0 && kid != i+1 {
					t.Errorf("node %d: kids %v", i, n.Kids)
				}
			}
		}
	}
}

// P3: what is appended to one slice of a result is not seen in another one.
func TestResultsAreApart(t *testing.T) {
	p := mustRead(t, "f(com, exp) : com, g(exp) : com |- com : f({ skip }, 1); g(2); skip")
	nodes, decls := p.Nodes(), p.Decls()
	before := show(p.Nodes())
	for i := range nodes {
		_ = append(nodes[i].Kids, -1, -1, -1)
	}
	for i := range decls {
		_ = append(decls[i].Args, api.Val, api.Val)
	}
	if show(nodes) != before || len(decls[1].Args) != 1 || decls[1].Args[0] != api.Exp {
		t.Errorf("slices of one result share memory")
	}
}
