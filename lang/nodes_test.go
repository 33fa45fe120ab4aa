package lang_test

import (
	"testing"

	"doppelganger/api"
	"doppelganger/lang"
)

// P1.6: the nodes of each kind, with all their fields.
func TestNodes(t *testing.T) {
	for text, want := range map[string][]api.Node{
		"|- com : skip":  {{Kind: api.Skip}},
		"|- com : stop":  {{Kind: api.Stop}},
		"|- exp : stop":  {{Kind: api.Stop, Type: api.Exp}},
		"|- com : fault": {{Kind: api.Fault}},
		"|- exp : fault": {{Kind: api.Fault, Type: api.Exp}},
		"|- exp : 3":     {{Kind: api.Num, Type: api.Exp, Value: 3}},
		"p : com |- com : p ; skip": {
			{Kind: api.Seq, Kids: []int{1, 2}}, {Kind: api.Call, Name: "p"}, {Kind: api.Skip}},
		"|- com : skip; stop; fault; skip": {
			{Kind: api.Seq, Kids: []int{1, 6}}, {Kind: api.Seq, Kids: []int{2, 5}}, {Kind: api.Seq, Kids: []int{3, 4}},
			{Kind: api.Skip}, {Kind: api.Stop}, {Kind: api.Fault}, {Kind: api.Skip}},
		"|- com : new x = 2 { x := x }": {
			{Kind: api.New, Name: "x", Kids: []int{1, 2}}, {Kind: api.Num, Type: api.Exp, Value: 2},
			{Kind: api.Assign, Name: "x", Kids: []int{3}}, {Kind: api.Read, Type: api.Exp, Name: "x"}},
		"|- exp : new x = 2 [ x ]": {
			{Kind: api.New, Type: api.Exp, Name: "x", Kids: []int{1, 2}}, {Kind: api.Num, Type: api.Exp, Value: 2}, {Kind: api.Read, Type: api.Exp, Name: "x"}},
		"|- com : if 1 { skip; stop } { fault }": {
			{Kind: api.If, Kids: []int{1, 2, 5}}, {Kind: api.Num, Type: api.Exp, Value: 1},
			{Kind: api.Seq, Kids: []int{3, 4}}, {Kind: api.Skip}, {Kind: api.Stop}, {Kind: api.Fault}},
		"|- exp : if 1 [ 2 ] [ 3 ]": {
			{Kind: api.If, Type: api.Exp, Kids: []int{1, 2, 3}}, {Kind: api.Num, Type: api.Exp, Value: 1},
			{Kind: api.Num, Type: api.Exp, Value: 2}, {Kind: api.Num, Type: api.Exp, Value: 3}},
		"|- com : while 1 { skip }": {
			{Kind: api.While, Kids: []int{1, 2}}, {Kind: api.Num, Type: api.Exp, Value: 1}, {Kind: api.Skip}},
		"|- exp : do { skip } [ 1 ]": {
			{Kind: api.Do, Type: api.Exp, Kids: []int{1, 2}}, {Kind: api.Skip}, {Kind: api.Num, Type: api.Exp, Value: 1}},
		"|- com : block k { exit k }": {
			{Kind: api.Block, Name: "k", Kids: []int{1}}, {Kind: api.Exit, Name: "k"}},
		"|- exp : do { block k { new x = exit k { skip } } } [ 0 ]": {
			{Kind: api.Do, Type: api.Exp, Kids: []int{1, 5}}, {Kind: api.Block, Name: "k", Kids: []int{2}},
			{Kind: api.New, Name: "x", Kids: []int{3, 4}}, {Kind: api.Exit, Type: api.Exp, Name: "k"}, {Kind: api.Skip},
			{Kind: api.Num, Type: api.Exp}},
		"f(val, com) : exp |- exp : f(1, { skip })": {
			{Kind: api.Call, Type: api.Exp, Name: "f", Kids: []int{1, 2}}, {Kind: api.Num, Type: api.Exp, Value: 1}, {Kind: api.Skip}},
		"|- com : proc f(a : com, b : val) : exp [ b ] { skip }": {
			{Kind: api.Proc, Name: "f", Params: []api.Param{{Name: "a"}, {Name: "b", Type: api.Val}}, Result: api.Exp, Kids: []int{1, 2}},
			{Kind: api.Read, Type: api.Exp, Name: "b"}, {Kind: api.Skip}},
		"|- exp : proc f() : com { skip } [ 1 ]": {
			{Kind: api.Proc, Type: api.Exp, Name: "f", Kids: []int{1, 2}}, {Kind: api.Skip}, {Kind: api.Num, Type: api.Exp, Value: 1}},
		"x : exp |- exp : new y = x [ x + y ]": {
			{Kind: api.New, Type: api.Exp, Name: "y", Kids: []int{1, 2}}, {Kind: api.Call, Type: api.Exp, Name: "x"},
			{Kind: api.Add, Type: api.Exp, Kids: []int{3, 4}}, {Kind: api.Call, Type: api.Exp, Name: "x"}, {Kind: api.Read, Type: api.Exp, Name: "y"}},
		"|- exp : 1 - 2 * 3 < 0": {
			{Kind: api.Less, Type: api.Exp, Kids: []int{1, 6}}, {Kind: api.Sub, Type: api.Exp, Kids: []int{2, 3}},
			{Kind: api.Num, Type: api.Exp, Value: 1}, {Kind: api.Mul, Type: api.Exp, Kids: []int{4, 5}},
			{Kind: api.Num, Type: api.Exp, Value: 2}, {Kind: api.Num, Type: api.Exp, Value: 3}, {Kind: api.Num, Type: api.Exp}},
		"|- exp : 1 - 2 + 3 == 0": {
			{Kind: api.Equal, Type: api.Exp, Kids: []int{1, 6}}, {Kind: api.Add, Type: api.Exp, Kids: []int{2, 5}},
			{Kind: api.Sub, Type: api.Exp, Kids: []int{3, 4}}, {Kind: api.Num, Type: api.Exp, Value: 1}, {Kind: api.Num, Type: api.Exp, Value: 2},
			{Kind: api.Num, Type: api.Exp, Value: 3}, {Kind: api.Num, Type: api.Exp}},
	} {
		p := mustRead(t, text)
		if got := show(p.Nodes()); got != show(want) {
			t.Errorf("%q: nodes\n%s; want\n%s", text, got, show(want))
		}
		q, err := lang.Build(p.Decls(), p.Type(), want)
		if err != api.OK || show(q.Nodes()) != show(want) || q.Text() != p.Text() {
			t.Errorf("%q: Build of its nodes: error %d", text, err)
		}
	}
}

// P1.7: Decls are in the order of names, in which order they were given does not matter; Type.
func TestDecls(t *testing.T) {
	want := []api.Decl{
		{Name: "a", Args: []api.Type{api.Com, api.Val, api.Exp}, Result: api.Exp},
		{Name: "ab"},
		{Name: "b", Result: api.Exp},
		{Name: "z", Args: []api.Type{api.Exp}},
	}
	given := []api.Decl{want[3], want[1], want[0], want[2]}
	built, err := lang.Build(given, api.Exp, []api.Node{{Kind: api.Call, Type: api.Exp, Name: "b"}})
	if err != api.OK {
		t.Fatalf("Build: error %d", err)
	}
	for _, p := range []*lang.Piece{built, mustRead(t, "z(exp) : com, b : exp, a(com, val, exp) : exp, ab : com |- exp : b")} {
		got := p.Decls()
		if len(got) != len(want) || p.Type() != api.Exp {
			t.Fatalf("declarations %v, type %d", got, p.Type())
		}
		for i, d := range got {
			if d.Name != want[i].Name || d.Result != want[i].Result || len(d.Args) != len(want[i].Args) {
				t.Errorf("declaration %d: %v; want %v", i, d, want[i])
			}
			for j := range d.Args {
				if d.Args[j] != want[i].Args[j] {
					t.Errorf("declaration %d: %v; want %v", i, d, want[i])
				}
			}
		}
	}
	if given[0].Name != "z" {
		t.Errorf("Build sorted its argument")
	}
}

// command, expression, named and number are nodes for the tests of Build.
func command(kind int, kids ...int) api.Node { return api.Node{Kind: kind, Kids: kids} }
func expression(kind int, kids ...int) api.Node {
	return api.Node{Kind: kind, Type: api.Exp, Kids: kids}
}
func named(n api.Node, name string) api.Node { n.Name = name; return n }
func number(value int) api.Node              { return api.Node{Kind: api.Num, Type: api.Exp, Value: value} }

// P1.7, ErrArg: lists that are not in the form of P1.6.
func TestBuildLists(t *testing.T) {
	skip := command(api.Skip)
	for _, nodes := range [][]api.Node{
		nil,
		{},
		{skip, skip},
		{command(api.Seq, 1, 2), skip, skip, skip},
		{command(api.Seq, 2, 1), skip, skip},
		{command(api.Seq, 1, 1), skip, skip},
		{command(api.Seq, 0, 1), skip, skip},
		{command(api.Seq, 1, 3), skip, skip, skip},
		{command(api.Seq, 1, 2), skip},
		{command(api.Seq, 1, 2)},
		{command(api.Seq, -1, 2), skip, skip},
		{command(api.Seq, 1, 1<<62), skip, skip},
		{command(api.Seq, 1, 2), command(api.Seq, 3, 4), skip, skip, skip},
		{command(api.Seq, 1, 2), skip, command(api.Seq, 1, 3), skip},
		{command(api.Seq, 1, 2), skip, command(api.Seq, 3, 0), skip},
		{named(command(api.Block, 0), "k")},
	} {
		wantBuild(t, nil, api.Com, nodes, api.ErrArg)
	}
}

// P1.7, ErrArg: kinds, numbers of kids, and types.
func TestBuildKinds(t *testing.T) {
	skip, one := command(api.Skip), number(1)
	p := named(command(api.Call), "p")
	for _, nodes := range [][]api.Node{
		{command(-1)}, {command(api.Exit + 1)}, {command(99)}, {expression(99)}, {command(-1 << 63)},
		{command(api.Skip, 1), skip}, {command(api.Stop, 1), skip}, {command(api.Fault, 1), skip},
		{expression(api.Num, 1), one}, {named(expression(api.Read, 1), "x"), one}, {named(command(api.Exit, 1), "k"), skip},
		{command(api.Seq)}, {command(api.Seq, 1), skip}, {command(api.Seq, 1, 2, 3), skip, skip, skip},
		{named(command(api.Assign), "x")}, {named(command(api.Assign, 1, 2), "x"), one, one}, {named(command(api.Assign, 1), "x"), skip},
		{command(api.If, 1, 2), one, skip}, {command(api.If, 1, 2, 3, 4), one, skip, skip, skip},
		{command(api.If, 1, 2, 3), skip, skip, skip}, {command(api.If, 1, 2, 3), one, one, skip}, {command(api.If, 1, 2, 3), one, skip, one},
		{expression(api.If, 1, 2, 3), one, skip, one}, {expression(api.If, 1, 2, 3), one, one, skip},
		{command(api.While), one}, {command(api.While, 1, 2), one, one}, {command(api.While, 1, 2), skip, skip}, {expression(api.While, 1, 2), one, skip},
		{named(command(api.New, 1), "x"), one}, {named(command(api.New, 1, 2), "x"), skip, skip}, {named(command(api.New, 1, 2), "x"), one, one},
		{named(expression(api.New, 1, 2), "x"), one, skip},
		{named(command(api.Call, 1, 2, 3, 4), "p"), one, one, one, one},
		{named(command(api.Proc, 1), "f"), skip}, {named(command(api.Proc, 1, 2), "f"), one, skip}, {named(command(api.Proc, 1, 2), "f"), skip, one},
		{expression(api.Add), one}, {expression(api.Add, 1), one}, {expression(api.Add, 1, 2, 3), one, one, one},
		{expression(api.Sub, 1, 2), skip, one}, {expression(api.Mul, 1, 2), one, skip}, {command(api.Add, 1, 2), one, one},
		{command(api.Equal, 1, 2), one, one}, {command(api.Less, 1, 2), one, one},
		{expression(api.Do, 1), skip}, {expression(api.Do, 1, 2), one, one}, {expression(api.Do, 1, 2), skip, skip}, {command(api.Do, 1, 2), skip, one},
		{named(command(api.Block), "k")}, {named(command(api.Block, 1), "k"), one}, {named(expression(api.Block, 1), "k"), skip},
		{named(command(api.Block, 1, 2), "k"), skip, skip},
		{command(api.Num)}, {named(command(api.Read), "x")}, {expression(api.Skip)}, {expression(api.Seq, 1, 2), skip, skip},
		{{Kind: api.Stop, Type: api.Val}}, {{Kind: api.Fault, Type: 3}}, {{Kind: api.Stop, Type: -1}}, {{Kind: api.Call, Name: "p", Type: api.Val}},
		{{Kind: api.Exit, Name: "k", Type: api.Val}}, {{Kind: api.Num, Type: api.Val}}, {named(command(api.Call, 1), "p"), {Kind: api.Stop, Type: api.Val}},
		{command(api.Seq, 1, 2), p, one},
	} {
		for _, typ := range []api.Type{api.Com, api.Exp, api.Val, -1, 3} {
			wantBuild(t, []api.Decl{{Name: "p"}}, typ, nodes, api.ErrArg)
		}
	}
	wantBuild(t, nil, api.Exp, []api.Node{skip}, api.ErrArg)
	wantBuild(t, nil, api.Com, []api.Node{one}, api.ErrArg)
	wantBuild(t, nil, api.Val, []api.Node{one}, api.ErrArg)
	wantBuild(t, nil, api.Val, []api.Node{{Kind: api.Stop, Type: api.Val}}, api.ErrArg)
}

// P1.7, ErrArg: names, values, parameters, and fields that a kind does not use.
func TestBuildFields(t *testing.T) {
	skip, one := command(api.Skip), number(1)
	for _, name := range []string{"", "if", "val", "abcdefghi", "X", "a1", "a b", " a", "a ", "1", "\u00fc"} {
		for _, nodes := range [][]api.Node{
			{named(command(api.Call), name)}, {named(command(api.Exit), name)}, {named(command(api.Block, 1), name), skip},
			{named(command(api.New, 1, 2), name), one, skip}, {named(command(api.Assign, 1), name), one},
			{named(command(api.Proc, 1, 2), name), skip, skip}, {named(command(api.Assign, 1), "x"), named(expression(api.Read), name)},
			{{Kind: api.Proc, Name: "f", Params: []api.Param{{Name: name}}, Kids: []int{1, 2}}, skip, skip},
		} {
			wantBuild(t, nil, api.Com, nodes, api.ErrArg)
		}
	}
	for _, n := range []api.Node{
		number(-1), number(api.Width), number(1 << 40), named(number(1), "x"),
		{Kind: api.Num, Type: api.Exp, Params: []api.Param{{Name: "a"}}}, {Kind: api.Num, Type: api.Exp, Result: api.Exp},
		{Kind: api.Stop, Type: api.Exp, Value: 1}, {Kind: api.Stop, Type: api.Exp, Result: -1}, {Kind: api.Stop, Type: api.Exp, Name: "x"},
		{Kind: api.Call, Type: api.Exp, Name: "x", Value: 1}, {Kind: api.Call, Type: api.Exp, Name: "x", Result: api.Exp},
		{Kind: api.Read, Type: api.Exp, Name: "x", Value: 1}, {Kind: api.Exit, Type: api.Exp, Name: "x", Value: 1},
	} {
		wantBuild(t, nil, api.Exp, []api.Node{n}, api.ErrArg)
	}
	for _, n := range []api.Node{
		{Kind: api.Seq, Name: "x", Kids: []int{1, 2}}, {Kind: api.Seq, Value: 1, Kids: []int{1, 2}}, {Kind: api.Seq, Result: api.Exp, Kids: []int{1, 2}},
		{Kind: api.Proc, Name: "f", Value: 1, Kids: []int{1, 2}}, {Kind: api.Proc, Name: "f", Result: api.Val, Kids: []int{1, 2}},
		{Kind: api.Proc, Name: "f", Result: -1, Kids: []int{1, 2}},
		{Kind: api.Proc, Name: "f", Params: []api.Param{{Name: "a"}, {Name: "a", Type: api.Exp}}, Kids: []int{1, 2}},
		{Kind: api.Proc, Name: "f", Params: []api.Param{{Name: "a", Type: 3}}, Kids: []int{1, 2}},
		{Kind: api.Proc, Name: "f", Params: []api.Param{{Name: "a", Type: -1}}, Kids: []int{1, 2}},
		{Kind: api.Proc, Name: "f", Params: []api.Param{{Name: "a"}, {Name: "b"}, {Name: "c"}, {Name: "d"}}, Kids: []int{1, 2}},
	} {
		wantBuild(t, nil, api.Com, []api.Node{n, skip, skip}, api.ErrArg)
	}
	wantBuild(t, nil, api.Com, []api.Node{{Kind: api.Skip, Kids: []int{}, Params: []api.Param{}}}, api.OK)
	three := []api.Param{{Name: "a"}, {Name: "b", Type: api.Exp}, {Name: "c", Type: api.Val}}
	wantBuild(t, nil, api.Com, []api.Node{{Kind: api.Proc, Name: "f", Params: three, Kids: []int{1, 2}}, skip, skip}, api.OK)
}

// P1.7, ErrArg: declarations that no text has.
func TestBuildDecls(t *testing.T) {
	skip := []api.Node{command(api.Skip)}
	four := []api.Type{api.Com, api.Exp, api.Val, api.Com}
	for _, decls := range [][]api.Decl{
		{{Name: ""}}, {{Name: "if"}}, {{Name: "abcdefghi"}}, {{Name: "A"}}, {{Name: "p q"}},
		{{Name: "p"}, {Name: "p"}}, {{Name: "p"}, {Name: "q"}, {Name: "p", Result: api.Exp}},
		{{Name: "p", Result: api.Val}}, {{Name: "p", Result: -1}}, {{Name: "p", Result: 3}},
		{{Name: "p", Args: []api.Type{3}}}, {{Name: "p", Args: []api.Type{api.Com, -1}}}, {{Name: "p", Args: four}},
		{{Name: "a"}, {Name: "b"}, {Name: "c"}, {Name: "d"}, {Name: "e"}},
	} {
		wantBuild(t, decls, api.Com, skip, api.ErrArg)
		wantBuild(t, decls, api.Com, []api.Node{named(command(api.Call), "z")}, api.ErrArg)
	}
	wantBuild(t, []api.Decl{{Name: "d"}, {Name: "abcdefgh"}, {Name: "c", Args: four[:3]}, {Name: "a", Args: []api.Type{}}}, api.Com, skip, api.OK)
}

// P1.7: the errors of Read, from ErrName on, behind ErrArg.
func TestBuildNames(t *testing.T) {
	skip, one := command(api.Skip), number(1)
	read, x := named(expression(api.Read), "x"), []api.Decl{{Name: "x", Result: api.Exp}}
	for _, c := range []struct {
		decls []api.Decl
		typ   api.Type
		nodes []api.Node
		want  api.Errno
	}{
		{nil, api.Exp, []api.Node{read}, api.ErrName},
		{x, api.Exp, []api.Node{read}, api.ErrType},
		{x, api.Exp, []api.Node{named(expression(api.Call), "x")}, api.OK},
		{nil, api.Exp, []api.Node{named(expression(api.New, 1, 2), "x"), one, read}, api.OK},
		{nil, api.Exp, []api.Node{named(expression(api.New, 1, 2), "x"), one, named(expression(api.Call), "x")}, api.ErrType},
		{nil, api.Com, []api.Node{named(command(api.New, 1, 2), "x"), one, named(command(api.Call), "x")}, api.ErrType},
		{x, api.Com, []api.Node{named(command(api.Assign, 1), "x"), one}, api.ErrType},
		{nil, api.Com, []api.Node{named(command(api.Assign, 1), "x"), one}, api.ErrName},
		{nil, api.Com, []api.Node{named(command(api.Block, 1), "x"), named(command(api.Assign, 2), "x"), one}, api.ErrType},
		{nil, api.Com, []api.Node{named(command(api.Block, 1), "x"), named(command(api.Call), "x")}, api.ErrType},
		{nil, api.Com, []api.Node{named(command(api.Block, 1), "x"), named(command(api.Exit), "x")}, api.OK},
		{nil, api.Com, []api.Node{named(command(api.Block, 1), "k"), named(command(api.Exit), "x")}, api.ErrName},
		{x, api.Com, []api.Node{named(command(api.Exit), "x")}, api.ErrType},
		{x, api.Com, []api.Node{named(command(api.Call), "x")}, api.ErrType},
		{x, api.Exp, []api.Node{named(expression(api.Call, 1), "x"), one}, api.ErrType},
		{nil, api.Com, []api.Node{{Kind: api.Proc, Name: "f", Params: []api.Param{{Name: "x", Type: api.Val}}, Result: api.Exp, Kids: []int{1, 2}}, read, skip}, api.OK},
		{nil, api.Com, []api.Node{{Kind: api.Proc, Name: "f", Params: []api.Param{{Name: "x", Type: api.Exp}}, Result: api.Exp, Kids: []int{1, 2}}, read, skip}, api.ErrType},
		{nil, api.Com, []api.Node{command(api.Seq, 1, 4), command(api.Seq, 2, 3), skip, named(command(api.Call), "q"), named(command(api.Call), "x")}, api.ErrName},
		{x, api.Com, []api.Node{command(api.Seq, 1, 2), named(command(api.Call), "x"), named(command(api.Call), "q")}, api.ErrType},
		{x, api.Com, []api.Node{command(api.Seq, 1, 2), named(command(api.Call), "q"), named(command(api.Call), "x")}, api.ErrName},
		{x, api.Com, []api.Node{command(api.Seq, 1, 2), named(command(api.Call), "q"), one}, api.ErrArg},
	} {
		wantBuild(t, c.decls, c.typ, c.nodes, c.want)
	}
}

// rowNodes is a row of some steps whose Seq nodes hang on the second kids.
func rowNodes(count int, step api.Node) []api.Node {
	var nodes []api.Node
	for range count - 1 {
		nodes = append(nodes, command(api.Seq, len(nodes)+1, len(nodes)+2), step)
	}
	return append(nodes, step)
}

// P1.9: Build puts rows together from the left, whatever shape they have.
func TestBuildRows(t *testing.T) {
	skip, stop, fault := command(api.Skip), command(api.Stop), command(api.Fault)
	end := named(command(api.Block, 1), "k")
	want := show([]api.Node{command(api.Seq, 1, 6), command(api.Seq, 2, 5), command(api.Seq, 3, 4), skip, stop, fault, skip})
	for _, nodes := range [][]api.Node{
		{command(api.Seq, 1, 6), command(api.Seq, 2, 5), command(api.Seq, 3, 4), skip, stop, fault, skip},
		{command(api.Seq, 1, 4), command(api.Seq, 2, 3), skip, stop, command(api.Seq, 5, 6), fault, skip},
		{command(api.Seq, 1, 2), skip, command(api.Seq, 3, 4), stop, command(api.Seq, 5, 6), fault, skip},
		{command(api.Seq, 1, 2), skip, command(api.Seq, 3, 6), command(api.Seq, 4, 5), stop, fault, skip},
		{command(api.Seq, 1, 6), command(api.Seq, 2, 3), skip, command(api.Seq, 4, 5), stop, fault, skip},
	} {
		p, err := lang.Build(nil, api.Com, nodes)
		if err != api.OK || show(p.Nodes()) != want || p.Text() != "|- com : skip; stop; fault; skip" {
			t.Errorf("Build(%s): error %d", show(nodes), err)
		}
		for i := range nodes { // the same within a block
			for j := range nodes[i].Kids {
				nodes[i].Kids[j]++
			}
		}
		if p, err := lang.Build(nil, api.Com, append([]api.Node{end}, nodes...)); err != api.OK || p.Text() != "|- com : block k { skip; stop; fault; skip }" {
			t.Errorf("Build(%s) in a block: error %d", show(nodes), err)
		}
	}
}

// P1.4, P1.7: the limits of what is built; levels are those of rows that are put together.
func TestBuildLimits(t *testing.T) {
	skip := command(api.Skip)
	wantBuild(t, nil, api.Com, rowNodes(300, skip), api.OK)
	wantBuild(t, nil, api.Com, rowNodes(301, skip), api.ErrFull)
	wantBuild(t, nil, api.Com, rowNodes(100000, skip), api.ErrFull)
	wantBuild(t, nil, api.Com, rowNodes(100000, named(command(api.Call), "p")), api.ErrName)
	var left, deep []api.Node
	for i := range 99999 {
		left = append(left, command(api.Seq, i+1, 199998-i))
	}
	for range 100000 {
		left = append(left, skip)
	}
	wantBuild(t, nil, api.Com, left, api.ErrFull)
	for i := range 1 << 16 {
		deep = append(deep, named(command(api.Block, i+1), "k"))
	}
	wantBuild(t, nil, api.Com, append(deep[:59:59], skip), api.OK)
	wantBuild(t, nil, api.Com, append(deep[:60:60], skip), api.ErrFull)
	wantBuild(t, nil, api.Com, append(deep[:1<<16:1<<16], skip), api.ErrFull)
	wantBuild(t, nil, api.Com, append(deep[:1<<16:1<<16], named(command(api.Exit), "j")), api.ErrName)
	wantBuild(t, nil, api.Com, append(deep[:1<<16:1<<16], number(1)), api.ErrArg)
}
