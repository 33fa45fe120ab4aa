package lang_test

import (
	"math/rand"
	"strings"
	"testing"

	"doppelganger/api"
	"doppelganger/lang"
)

// maker makes random pieces that are right, each as a loose text (with more parentheses and spaces than needed) and as the list of nodes that it has.
type maker struct {
	*rand.Rand
	names []made // what is bound, the innermost last
	left  int    // how many nodes may be made yet
}

// made is what binds a name: sort is 'c' for what is called, 'v' for a variable, 'l' for a label.
type made struct {
	name   string
	sort   byte
	args   []api.Type
	result api.Type
}

// tree is a node with its kids.
type tree struct {
	node api.Node
	kids []tree
}

func (m *maker) name() string {
	return []string{"a", "b", "c", "p", "hole", "abcdefgh"}[m.Intn(6)]
}

func (m *maker) space() string {
	return []string{" ", "  ", "\n", "\t "}[m.Intn(4)]
}

// visible is what fits and is not hidden.
func (m *maker) visible(fits func(b made) bool) (made, bool) {
	var found []made
	hidden := map[string]bool{}
	for i := len(m.names) - 1; i >= 0; i-- {
		b := m.names[i]
		if !hidden[b.name] && fits(b) {
			found = append(found, b)
		}
		hidden[b.name] = true
	}
	if len(found) == 0 {
		return made{}, false
	}
	return found[m.Intn(len(found))], true
}

// within makes something where more names are bound.
func (m *maker) within(more []made, make func() (string, tree)) (string, tree) {
	old := len(m.names)
	m.names = append(m.names, more...)
	text, t := make()
	m.names = m.names[:old]
	return text, t
}

func (m *maker) block(typ api.Type) (string, tree) {
	text, t := m.term(typ)
	if typ == api.Com {
		return "{" + text + "}", t
	}
	return "[" + text + "]", t
}

func (m *maker) term(typ api.Type) (string, tree) {
	if typ == api.Exp {
		return m.exp()
	}
	text, row := m.step()
	for m.Intn(2) == 0 && m.left > 0 {
		more, step := m.step()
		text += m.space() + ";" + more
		row = tree{api.Node{Kind: api.Seq}, []tree{row, step}}
	}
	return text, row
}

func (m *maker) step() (string, tree) {
	m.left--
	if m.left <= 0 {
		return "skip", tree{node: api.Node{Kind: api.Skip}}
	}
	switch m.Intn(4) {
	case 0:
		test, testTree := m.exp()
		body, bodyTree := m.block(api.Com)
		return "while " + test + body, tree{api.Node{Kind: api.While}, []tree{testTree, bodyTree}}
	case 1:
		name := m.name()
		body, bodyTree := m.within([]made{{name: name, sort: 'l'}}, func() (string, tree) { return m.block(api.Com) })
		return "block " + name + body, tree{api.Node{Kind: api.Block, Name: name}, []tree{bodyTree}}
	case 2:
		if b, ok := m.visible(func(b made) bool { return b.sort == 'v' }); ok {
			value, valueTree := m.exp()
			return b.name + m.space() + ":=" + value, tree{api.Node{Kind: api.Assign, Name: b.name}, []tree{valueTree}}
		}
	}
	return m.either(api.Com)
}

func (m *maker) exp() (string, tree) {
	m.left--
	if m.left <= 0 {
		return "1", tree{node: api.Node{Kind: api.Num, Type: api.Exp, Value: 1}}
	}
	switch m.Intn(6) {
	case 0, 1:
		kind := api.Add + m.Intn(5)
		left, leftTree := m.exp()
		right, rightTree := m.exp()
		mark := []string{"+", "-", "*", "==", "<"}[kind-api.Add]
		return "((" + left + ")" + mark + "(" + right + "))", tree{api.Node{Kind: kind, Type: api.Exp}, []tree{leftTree, rightTree}}
	case 2:
		body, bodyTree := m.block(api.Com)
		value, valueTree := m.block(api.Exp)
		return "do" + body + value, tree{api.Node{Kind: api.Do, Type: api.Exp}, []tree{bodyTree, valueTree}}
	case 3:
		if b, ok := m.visible(func(b made) bool { return b.sort == 'v' }); ok {
			return b.name, tree{node: api.Node{Kind: api.Read, Type: api.Exp, Name: b.name}}
		}
	}
	return m.either(api.Exp)
}

func (m *maker) either(typ api.Type) (string, tree) {
	switch m.Intn(7) {
	case 0:
		return "stop", tree{node: api.Node{Kind: api.Stop, Type: typ}}
	case 1:
		return "fault", tree{node: api.Node{Kind: api.Fault, Type: typ}}
	case 2:
		if b, ok := m.visible(func(b made) bool { return b.sort == 'l' }); ok {
			return "exit " + b.name, tree{node: api.Node{Kind: api.Exit, Type: typ, Name: b.name}}
		}
	case 3:
		name := m.name()
		value, valueTree := m.exp()
		body, bodyTree := m.within([]made{{name: name, sort: 'v'}}, func() (string, tree) { return m.block(typ) })
		return "new " + name + "=" + value + body, tree{api.Node{Kind: api.New, Type: typ, Name: name}, []tree{valueTree, bodyTree}}
	case 4:
		return m.proc(typ)
	case 5:
		return m.call(typ)
	}
	test, testTree := m.exp()
	yes, yesTree := m.block(typ)
	no, noTree := m.block(typ)
	return "if " + test + yes + no, tree{api.Node{Kind: api.If, Type: typ}, []tree{testTree, yesTree, noTree}}
}

func (m *maker) proc(typ api.Type) (string, tree) {
	n := api.Node{Kind: api.Proc, Type: typ, Name: m.name(), Result: api.Type(m.Intn(2))}
	var heads []string
	var inner []made
	own := made{name: n.Name, sort: 'c', result: n.Result}
	for i := range m.Intn(api.MaxArgs + 1) {
		p := api.Param{Name: "xyz"[i : i+1], Type: api.Type(m.Intn(3))}
		n.Params = append(n.Params, p)
		own.args = append(own.args, p.Type)
		heads = append(heads, p.Name+":"+typeName(p.Type))
		if p.Type == api.Val {
			inner = append(inner, made{name: p.Name, sort: 'v'})
		} else {
			inner = append(inner, made{name: p.Name, sort: 'c', result: p.Type})
		}
	}
	body, bodyTree := m.within(inner, func() (string, tree) { return m.block(n.Result) })
	block, blockTree := m.within([]made{own}, func() (string, tree) { return m.block(typ) })
	return "proc " + n.Name + m.space() + "(" + strings.Join(heads, ",") + "):" + typeName(n.Result) + body + block, tree{n, []tree{bodyTree, blockTree}}
}

func (m *maker) call(typ api.Type) (string, tree) {
	b, ok := m.visible(func(b made) bool { return b.sort == 'c' && b.result == typ })
	if !ok {
		return "fault", tree{node: api.Node{Kind: api.Fault, Type: typ}}
	}
	t := tree{node: api.Node{Kind: api.Call, Type: typ, Name: b.name}}
	var args []string
	for _, a := range b.args {
		text, arg := "", tree{}
		if a == api.Com {
			text, arg = m.block(api.Com)
		} else {
			text, arg = m.exp()
		}
		args, t.kids = append(args, text), append(t.kids, arg)
	}
	if len(args) == 0 {
		return b.name, t
	}
	return b.name + m.space() + "(" + strings.Join(args, m.space()+",") + ")", t
}

func typeName(typ api.Type) string {
	return []string{"com", "exp", "val"}[typ]
}

// list is the list of nodes of a tree.
func list(nodes []api.Node, t tree) []api.Node {
	at := len(nodes)
	nodes = append(nodes, t.node)
	for _, kid := range t.kids {
		nodes[at].Kids = append(nodes[at].Kids, len(nodes))
		nodes = list(nodes, kid)
	}
	return nodes
}

// randomPiece is a loose text and the nodes of a random piece.
func randomPiece(seed int64) (string, []api.Node) {
	m := &maker{Rand: rand.New(rand.NewSource(seed))}
	m.left = 1 + m.Intn(60)
	var decls []string
	for _, name := range []string{"p", "f", "hole", "e"}[m.Intn(5):] {
		b := made{name: name, sort: 'c', result: api.Type(m.Intn(2))}
		var args []string
		for range m.Intn(api.MaxArgs + 1) {
			typ := api.Type(m.Intn(3))
			b.args, args = append(b.args, typ), append(args, typeName(typ))
		}
		text := name
		if len(args) > 0 {
			text += "(" + strings.Join(args, ",") + ")"
		}
		decls, m.names = append(decls, text+":"+typeName(b.result)), append(m.names, b)
	}
	typ := api.Type(m.Intn(2))
	text, t := m.term(typ)
	return strings.Join(decls, ",") + "|-" + typeName(typ) + ":" + text, list(nil, t)
}

// T1, P1.6 to P1.9: the text of a piece is read back as the same piece, and its nodes are built to it.
func TestRandomPieces(t *testing.T) {
	read := 0
	for seed := range int64(4000) {
		text, nodes := randomPiece(seed)
		if len(text) > api.MaxText {
			continue
		}
		p, err := lang.Read(text)
		if err == api.ErrFull {
			continue
		}
		if err != api.OK || show(p.Nodes()) != show(nodes) {
			t.Fatalf("Read(%q): error %d, nodes %s; want %s", text, err, show(p.Nodes()), show(nodes))
		}
		read++
		plain := p.Text()
		again, err := lang.Read(plain)
		if len(plain) <= api.MaxText && (err != api.OK || show(again.Nodes()) != show(nodes) || again.Text() != plain) {
			t.Fatalf("Read(%q): error %d", plain, err)
		}
		built, err := lang.Build(p.Decls(), p.Type(), p.Nodes())
		if err != api.OK || show(built.Nodes()) != show(nodes) || built.Text() != plain {
			t.Fatalf("Build of %q: error %d", plain, err)
		}
	}
	if read < 3000 {
		t.Errorf("only %d pieces were read", read)
	}
}

// P1.8: without one of its pairs of parentheses a text is another piece, or none.
func TestParenthesesAreNeeded(t *testing.T) {
	for seed := range int64(1000) {
		text, _ := randomPiece(seed)
		p, err := lang.Read(text)
		if err != api.OK {
			continue
		}
		plain := p.Text()
		for i := range plain {
			if plain[i] != '(' || i > 0 && plain[i-1] != ' ' && plain[i-1] != '(' {
				continue
			}
			end := closing(plain, i)
			less := plain[:i] + plain[i+1:end] + plain[end+1:]
			if q, err := lang.Read(less); err == api.OK && show(q.Nodes()) == show(p.Nodes()) {
				t.Fatalf("%q is the same piece as %q", less, plain)
			}
		}
	}
}

// closing is the place of the parenthesis that ends what one begins.
func closing(text string, at int) int {
	for depth := 0; ; at++ {
		switch text[at] {
		case '(':
			depth++
		case ')':
			depth--
			if depth == 0 {
				return at
			}
		}
	}
}

// P1, P2: whatever a text is, Read returns either a piece that is read back, or an error without a piece.
func TestRandomTexts(t *testing.T) {
	r := rand.New(rand.NewSource(1))
	parts := strings.Fields("skip stop fault if while new proc block exit do com exp val p x k f hole 0 1 3 4 := == = < + - * ( ) { } [ ] , ; : |- | ! X")
	for range 8000 {
		text, _ := randomPiece(r.Int63())
		for range r.Intn(3) {
			at := r.Intn(len(text) + 1)
			end := min(len(text), at+r.Intn(4))
			text = text[:at] + []string{"", " ", parts[r.Intn(len(parts))]}[r.Intn(3)] + text[end:]
		}
		p, err := lang.Read(text)
		if (p == nil) == (err == api.OK) || err == api.ErrArg || err == api.ErrNone {
			t.Fatalf("Read(%q): piece %v, error %d", text, p != nil, err)
		}
		if plain := p.Text(); err == api.OK && len(plain) <= api.MaxText {
			if q, err := lang.Read(plain); err != api.OK || q.Text() != plain {
				t.Fatalf("Read(%q): error %d", plain, err)
			}
		}
	}
}

// P1, P2, P1.7: whatever a list of nodes is, Build returns either a piece that is built again, or an error without a piece.
func TestRandomNodes(t *testing.T) {
	r := rand.New(rand.NewSource(2))
	for range 8000 {
		text, nodes := randomPiece(r.Int63())
		p, err := lang.Read(text)
		if err != api.OK {
			continue
		}
		n := &nodes[r.Intn(len(nodes))]
		switch r.Intn(6) {
		case 0:
			n.Kind = r.Intn(24) - 2
		case 1:
			n.Type = api.Type(r.Intn(4))
		case 2:
			n.Name = []string{"p", "a", "x", "", "if"}[r.Intn(5)]
		case 3:
			n.Value = r.Intn(7) - 2
		case 4:
			n.Params = append(n.Params, api.Param{Name: []string{"x", "w", ""}[r.Intn(3)], Type: api.Type(r.Intn(4))})
		case 5:
			n.Kids = append(n.Kids, r.Intn(len(nodes)+2)-1)
		}
		q, err := lang.Build(p.Decls(), p.Type(), nodes)
		if (q == nil) == (err == api.OK) || err == api.ErrForm {
			t.Fatalf("Build(%s): piece %v, error %d", show(nodes), q != nil, err)
		}
		if err == api.OK && show(q.Nodes()) != show(nodes) {
			built, err := lang.Build(q.Decls(), q.Type(), q.Nodes())
			if err != api.OK || show(built.Nodes()) != show(q.Nodes()) {
				t.Fatalf("Build(%s): error %d", show(q.Nodes()), err)
			}
		}
	}
}
