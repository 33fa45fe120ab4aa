package moves_test

import (
	"math/rand"
	"slices"
	"strings"
	"testing"

	"doppelganger/api"
	"doppelganger/lang"
	"doppelganger/moves"
)

// author writes random pieces that are right.
type author struct {
	*rand.Rand
	known []known // the innermost last
	left  int     // how many nodes may be written yet
}

// known is a name: its sort is "called", "variable" or "label".
type known struct {
	name, sort string
	args       []api.Type
	result     api.Type
}

var typeWords = []string{"com", "exp", "val"}

func (k known) head() string {
	if len(k.args) == 0 {
		return k.name + " : " + typeWords[k.result]
	}
	var args []string
	for _, typ := range k.args {
		args = append(args, typeWords[typ])
	}
	return k.name + "(" + strings.Join(args, ", ") + ") : " + typeWords[k.result]
}

// piece writes a piece.
func (a *author) piece(size int) string {
	var decls []string
	a.known, a.left = nil, size
	for _, name := range []string{"f", "g", "p", "x"}[a.Intn(3):] {
		k := known{name: name, sort: "called", result: api.Type(a.Intn(2))}
		if name < "p" {
			for range 1 + a.Intn(2) {
				k.args = append(k.args, api.Type(a.Intn(3)))
			}
		}
		a.known = append(a.known, k)
		decls = append(decls, k.head())
	}
	typ := api.Type(a.Intn(2))
	return strings.Join(decls, ", ") + " |- " + typeWords[typ] + " : " + a.term(typ)
}

// some returns one of the names that are seen and fit.
func (a *author) some(sort string, fits func(k known) bool) (known, bool) {
	var found []known
	seen := map[string]bool{}
	for _, k := range slices.Backward(a.known) {
		if !seen[k.name] && k.sort == sort && fits(k) {
			found = append(found, k)
		}
		seen[k.name] = true
	}
	if len(found) == 0 {
		return known{}, false
	}
	return found[a.Intn(len(found))], true
}

// knowing writes something where more names are known.
func (a *author) knowing(more []known, write func() string) string {
	count := len(a.known)
	a.known = append(a.known, more...)
	text := write()
	a.known = a.known[:count]
	return text
}

func (a *author) block(typ api.Type, more ...known) string {
	return a.knowing(more, func() string {
		if typ == api.Com {
			return " { " + a.term(typ) + " }"
		}
		return " [ " + a.term(typ) + " ]"
	})
}

// term writes a term; what cannot be written where it stands is empty.
func (a *author) term(typ api.Type) string {
	a.left--
	if a.left < 0 {
		return []string{"skip", "1"}[typ]
	}
	either := []func(api.Type) string{a.call, a.call, a.call, a.call, a.choice, a.local, a.local, a.procedure, a.procedure, a.exit, a.end}
	own := []func() string{a.steps, a.steps, a.steps, a.assign, a.assign, a.loop, a.label, a.label}
	if typ == api.Exp {
		own = []func() string{a.operation, a.operation, a.operation, a.read, a.read, a.number, a.do}
	}
	for {
		text := ""
		if i := a.Intn(len(either) + len(own)); i < len(either) {
			text = either[i](typ)
		} else {
			text = own[i-len(either)]()
		}
		if text != "" {
			return text
		}
	}
}

func (a *author) call(typ api.Type) string {
	k, ok := a.some("called", func(k known) bool { return k.result == typ })
	if !ok {
		return ""
	}
	var args []string
	for _, typ := range k.args {
		if typ == api.Com {
			args = append(args, "{ "+a.term(api.Com)+" }")
		} else {
			args = append(args, a.term(api.Exp))
		}
	}
	if len(args) == 0 {
		return k.name
	}
	return k.name + "(" + strings.Join(args, ", ") + ")"
}

func (a *author) choice(typ api.Type) string {
	return "if " + a.term(api.Exp) + a.block(typ) + a.block(typ)
}

func (a *author) local(typ api.Type) string {
	name := []string{"x", "y", "z"}[a.Intn(3)]
	return "new " + name + " = " + a.term(api.Exp) + a.block(typ, known{name: name, sort: "variable"})
}

func (a *author) procedure(typ api.Type) string {
	own := known{name: []string{"p", "q", "r", "s"}[a.Intn(4)], sort: "called", result: api.Type(a.Intn(2))}
	var params []known
	var heads []string
	for i := range a.Intn(api.MaxArgs + 1) {
		k := known{name: []string{"p", "u", "x", "y", "s", "z"}[2*i+a.Intn(2)], sort: "called", result: api.Type(a.Intn(3))}
		heads = append(heads, k.head())
		own.args = append(own.args, k.result)
		if k.result == api.Val {
			k.sort = "variable"
		}
		params = append(params, k)
	}
	head := "proc " + own.name + "(" + strings.Join(heads, ", ") + ") : " + typeWords[own.result]
	body := a.block(own.result, params...)
	return head + body + a.block(typ, own)
}

func (a *author) exit(api.Type) string {
	if k, ok := a.some("label", func(known) bool { return true }); ok {
		return "exit " + k.name
	}
	return ""
}

func (a *author) end(api.Type) string {
	return []string{"", "", "", "fault", "stop"}[a.Intn(5)]
}

func (a *author) steps() string {
	first := a.term(api.Com)
	return first + "; " + a.term(api.Com)
}

func (a *author) assign() string {
	if k, ok := a.some("variable", func(known) bool { return true }); ok {
		return k.name + " := " + a.term(api.Exp)
	}
	return ""
}

func (a *author) loop() string {
	return "while " + a.term(api.Exp) + a.block(api.Com)
}

func (a *author) label() string {
	name := []string{"k", "l", "y"}[a.Intn(3)]
	return "block " + name + a.block(api.Com, known{name: name, sort: "label"})
}

func (a *author) operation() string {
	left := a.term(api.Exp)
	return "(" + left + []string{" + ", " - ", " * ", " == ", " < "}[a.Intn(5)] + a.term(api.Exp) + ")"
}

func (a *author) read() string {
	k, _ := a.some("variable", func(known) bool { return true })
	return k.name
}

func (a *author) number() string { return string(rune('0' + a.Intn(api.Width))) }

func (a *author) do() string {
	return "do" + a.block(api.Com) + a.block(api.Exp)
}

// allowed is the moves of the other side when a name waits.
func allowed(d api.Decl) []api.Move {
	list := []api.Move{tells(d.Name, 0)}
	if d.Result == api.Exp {
		list = append(list, tells(d.Name, 1), tells(d.Name, 2), tells(d.Name, 3))
	}
	for i, typ := range d.Args {
		if typ != api.Val {
			list = append(list, wants(d.Name, i+1))
		}
	}
	return list
}

// compared is a piece whose machine is held against what refer says.
type compared struct {
	t       *testing.T
	p       *lang.Piece
	machine api.Machine
	letters []api.Move
	left    int   // how many rows of moves may be tried yet
	order   []int // in which the letters are tried
}

// try holds the state behind some moves of the other side against the piece, and goes on behind it.
func (c *compared) try(options []api.Move, state int) {
	c.left--
	if c.left < 0 || len(options) > 8 || c.t.Failed() {
		return
	}
	made, left := refer(c.p, options)
	var next []api.Move
	switch left := left.(type) {
	case tooLong, endless:
		if _, never := left.(endless); never && state >= 0 {
			c.t.Errorf("%s: a move behind %v", c.p.Text(), options)
		}
		return
	case waiting:
		next = allowed(left.name)
	case ended:
	default:
		c.t.Fatalf("%s, %v: left by %v", c.p.Text(), options, left)
	}
	state = c.step(state, made[len(made)-1])
	if state < 0 || !c.machine.End[state] {
		c.t.Errorf("%s: behind %v not the move %v", c.p.Text(), options, made[len(made)-1])
		return
	}
	c.follow(options, made)
	for _, letter := range c.order {
		to, move := c.machine.Next[state][letter], c.letters[letter]
		if slices.Contains(next, move) {
			c.try(append(slices.Clone(options), move), to)
		} else if to >= 0 {
			c.t.Errorf("%s: behind %v the move %v", c.p.Text(), options, move)
		}
	}
}

// step returns the state to which a move of the piece leads, if it is the only one that leads from a state in which none ends.
func (c *compared) step(state int, made api.Move) int {
	if state < 0 || c.machine.End[state] {
		return -1
	}
	to := -1
	for letter, next := range c.machine.Next[state] {
		if next >= 0 && c.letters[letter] != made {
			return -1
		}
		to = max(to, next)
	}
	return to
}

// follow checks what Play says of a play, and of some rows of moves that are none.
func (c *compared) follow(options, made []api.Move) {
	play := []api.Move{{}, made[0]}
	for i, option := range options {
		play = append(play, option, made[i+1])
	}
	wantPlay(c.t, c.p, play, true)
	wantPlay(c.t, c.p, play[:len(play)-1], false)
	at := len(play) - 1
	play[at] = c.letters[(slices.Index(c.letters, play[at])+1+len(options))%len(c.letters)]
	wantPlay(c.t, c.p, play, play[at] == made[len(made)-1])
}

// T3, P4.1, P4.2, P4.4, P4.7, P4.8: the machines of random pieces accept just the plays that chapter 2 says, and Play tells them.
func TestRandomPieces(t *testing.T) {
	a := &author{Rand: rand.New(rand.NewSource(4))}
	good, great := 0, 0
	for range 4000 {
		p := mustRead(t, a.piece(10+a.Intn(40)))
		m, err := moves.Plays(p)
		if err != api.OK {
			continue
		}
		good++
		if len(m.Next) > 20 {
			great++
		}
		c := &compared{t: t, p: p, machine: m, letters: moves.Letters(p.Decls(), p.Type()), left: 40}
		c.order = a.Perm(len(c.letters))
		state := -1
		if m.Start >= 0 {
			state = m.Next[m.Start][0]
		}
		c.try(nil, state)
		if t.Failed() {
			return
		}
	}
	if good < 3000 || great < 150 {
		t.Errorf("%d machines, %d of them great: too few to tell", good, great)
	}
}
