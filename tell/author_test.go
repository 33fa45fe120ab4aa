package tell_test

import (
	"math/rand"
	"slices"
	"strings"
	"testing"

	"doppelganger/api"
	"doppelganger/lang"
	"doppelganger/moves"
)

// author writes random pieces and contexts that are right.
type author struct {
	*rand.Rand
	known []known // the innermost last
	left  int     // how many nodes may be written yet
	plain bool    // without fault and stop
}

// known is a name: its sort is "called", "variable" or "label".
type known struct {
	name, sort string
	args       []api.Type
	result     api.Type
}

func newAuthor(seed int64) *author {
	return &author{Rand: rand.New(rand.NewSource(seed))}
}

var typeWords = []string{"com", "exp", "val"}

func (k known) head() string {
	if len(k.args) == 0 {
		return k.name + " : " + typeWords[k.result]
	}
	var args []string
	for _, typ := range k.args {
		args = append(args, typeWords[typ])
	}
	return k.name + "(" + strings.Join(args, ", ") + ") : " + typeWords[k.result]
}

func declared(d api.Decl) known {
	return known{name: d.Name, sort: "called", args: d.Args, result: d.Result}
}

// text writes a term of a type with some declarations.
func (a *author) text(decls []api.Decl, typ api.Type, size int) string {
	var heads []string
	a.known, a.left = nil, size
	for _, d := range decls {
		a.known = append(a.known, declared(d))
		heads = append(heads, declared(d).head())
	}
	return strings.Join(heads, ", ") + " |- " + typeWords[typ] + " : " + a.term(typ)
}

// piece writes a piece that has a machine.
func (a *author) piece(t *testing.T, decls []api.Decl, typ api.Type, size int) (*lang.Piece, api.Machine) {
	t.Helper()
	for {
		p := mustRead(t, a.text(decls, typ, size))
		if m, err := moves.Plays(p); err == api.OK {
			return p, m
		}
	}
}

// some returns one of the names that are seen and fit.
func (a *author) some(sort string, fits func(k known) bool) (known, bool) {
	var found []known
	seen := map[string]bool{}
	for _, k := range slices.Backward(a.known) {
		if !seen[k.name] && k.sort == sort && fits(k) {
			found = append(found, k)
		}
		seen[k.name] = true
	}
	if len(found) == 0 {
		return known{}, false
	}
	return found[a.Intn(len(found))], true
}

// knowing writes something where more names are known.
func (a *author) knowing(more []known, write func() string) string {
	count := len(a.known)
	a.known = append(a.known, more...)
	text := write()
	a.known = a.known[:count]
	return text
}

func (a *author) block(typ api.Type, more ...known) string {
	return a.knowing(more, func() string { return braced(typ, a.term(typ)) })
}

func braced(typ api.Type, text string) string {
	if typ == api.Com {
		return " { " + text + " }"
	}
	return " [ " + text + " ]"
}

// term writes a term; what cannot be written where it stands is empty.
func (a *author) term(typ api.Type) string {
	a.left--
	if a.left < 0 {
		return []string{"skip", "1"}[typ]
	}
	either := []func(api.Type) string{a.call, a.call, a.call, a.call, a.call, a.choice, a.local, a.procedure, a.exit, a.end}
	own := []func() string{a.steps, a.steps, a.steps, a.assign, a.assign, a.loop, a.label}
	if typ == api.Exp {
		own = []func() string{a.operation, a.operation, a.read, a.read, a.number, a.do}
	}
	for {
		text := ""
		if i := a.Intn(len(either) + len(own)); i < len(either) {
			text = either[i](typ)
		} else {
			text = own[i-len(either)]()
		}
		if text != "" {
			return text
		}
	}
}

func (a *author) call(typ api.Type) string {
	k, ok := a.some("called", func(k known) bool { return k.result == typ })
	if !ok {
		return ""
	}
	var args []string
	for _, typ := range k.args {
		if typ == api.Com {
			args = append(args, "{ "+a.term(api.Com)+" }")
		} else {
			args = append(args, a.term(api.Exp))
		}
	}
	if len(args) == 0 {
		return k.name
	}
	return k.name + "(" + strings.Join(args, ", ") + ")"
}

func (a *author) choice(typ api.Type) string {
	return "if " + a.term(api.Exp) + a.block(typ) + a.block(typ)
}

func (a *author) local(typ api.Type) string {
	name := []string{"u", "v", "w"}[a.Intn(3)]
	return "new " + name + " = " + a.term(api.Exp) + a.block(typ, known{name: name, sort: "variable"})
}

// procedure writes a procedure of a name that is declared nowhere, and the block in which it is known.
func (a *author) procedure(typ api.Type) string {
	own := known{name: []string{"r", "s"}[a.Intn(2)], sort: "called", result: api.Type(a.Intn(2))}
	for range a.Intn(api.MaxArgs) {
		own.args = append(own.args, api.Type(a.Intn(3)))
	}
	return a.bound(own) + a.block(typ, own)
}

// bound writes the head of a procedure, with its body.
func (a *author) bound(own known) string {
	var params []known
	var heads []string
	for i, typ := range own.args {
		k := known{name: []string{"l", "m", "n"}[i], sort: "called", result: typ}
		heads = append(heads, k.head())
		if typ == api.Val {
			k.sort = "variable"
		}
		params = append(params, k)
	}
	return "proc " + own.name + "(" + strings.Join(heads, ", ") + ") : " + typeWords[own.result] + a.block(own.result, params...)
}

func (a *author) exit(api.Type) string {
	if k, ok := a.some("label", func(known) bool { return true }); ok {
		return "exit " + k.name
	}
	return ""
}

func (a *author) end(api.Type) string {
	if a.plain {
		return ""
	}
	return []string{"", "", "fault", "stop"}[a.Intn(4)]
}

func (a *author) steps() string {
	first := a.term(api.Com)
	return first + "; " + a.term(api.Com)
}

func (a *author) assign() string {
	if k, ok := a.some("variable", func(known) bool { return true }); ok {
		return k.name + " := " + a.term(api.Exp)
	}
	return ""
}

func (a *author) loop() string {
	return "while " + a.term(api.Exp) + a.block(api.Com)
}

func (a *author) label() string {
	name := []string{"j", "k"}[a.Intn(2)]
	return "block " + name + a.block(api.Com, known{name: name, sort: "label"})
}

func (a *author) operation() string {
	left := a.term(api.Exp)
	return "(" + left + []string{" + ", " - ", " * ", " == ", " < "}[a.Intn(5)] + a.term(api.Exp) + ")"
}

func (a *author) read() string {
	k, _ := a.some("variable", func(known) bool { return true })
	return k.name
}

func (a *author) number() string { return string(rune('0' + a.Intn(api.Width))) }

func (a *author) do() string {
	return "do" + a.block(api.Com) + a.block(api.Exp)
}

// changed returns a piece with a small change, which has a machine; p itself if none is found.
func (a *author) changed(p *lang.Piece) *lang.Piece {
	for range 30 {
		nodes := p.Nodes()
		n := &nodes[a.Intn(len(nodes))]
		switch n.Kind {
		case api.Num:
			n.Value = a.Intn(api.Width)
		case api.Add, api.Sub, api.Mul, api.Equal, api.Less:
			n.Kind = api.Add + a.Intn(5)
		case api.Skip, api.Stop, api.Fault:
			n.Kind = []int{api.Skip, api.Stop, api.Fault}[a.Intn(3)]
		case api.Call, api.Read, api.Exit, api.Assign:
			n.Name = nodes[a.Intn(len(nodes))].Name
		default:
			continue
		}
		q, err := lang.Build(p.Decls(), p.Type(), nodes)
		if err != api.OK {
			continue
		}
		if _, err := moves.Plays(q); err == api.OK && q.Text() != p.Text() {
			return q
		}
	}
	return p
}

// played returns a random play of a machine, of at most some rounds; none if it has none.
func (a *author) played(p *lang.Piece, m api.Machine, rounds int) []api.Move {
	letters := moves.Letters(p.Decls(), p.Type())
	var play []api.Move
	for at := m.Start; at >= 0 && len(play) < 2*rounds; {
		var open []int
		for letter, to := range m.Next[at] {
			if to >= 0 {
				open = append(open, letter)
			}
		}
		if len(open) == 0 {
			break
		}
		letter := open[a.Intn(len(open))]
		play = append(play, letters[letter])
		at = m.Next[at][letter]
	}
	return play
}

// settings are declarations and types of pieces.
var settings = []struct {
	decls []api.Decl
	typ   api.Type
}{
	{nil, api.Com},
	{nil, api.Exp},
	{[]api.Decl{{Name: "p"}}, api.Com},
	{[]api.Decl{{Name: "x", Result: api.Exp}}, api.Exp},
	{[]api.Decl{{Name: "f", Args: []api.Type{api.Com}}}, api.Com},
	{[]api.Decl{{Name: "f", Args: []api.Type{api.Com}}, {Name: "p"}}, api.Com},
	{[]api.Decl{{Name: "f", Args: []api.Type{api.Exp}, Result: api.Exp}, {Name: "x", Result: api.Exp}}, api.Exp},
	{[]api.Decl{{Name: "f", Args: []api.Type{api.Com}}, {Name: "g", Args: []api.Type{api.Com, api.Com}, Result: api.Exp}}, api.Com},
	{[]api.Decl{{Name: "a", Args: []api.Type{api.Val, api.Com}}, {Name: "b", Args: []api.Type{api.Exp, api.Val, api.Val}, Result: api.Exp}}, api.Exp},
	{[]api.Decl{{Name: "c", Args: []api.Type{api.Val}, Result: api.Exp}, {Name: "d", Args: []api.Type{api.Val}}, {Name: "g", Args: []api.Type{api.Exp, api.Com, api.Exp}}, {Name: "p"}}, api.Com},
}
