package rules_test

import (
	"math/rand"
	"slices"
	"strings"
	"testing"

	"doppelganger/api"
	"doppelganger/lang"
	"doppelganger/rules"
)

// author writes random pieces that are right. They use the names that the rules of shown bind.
type author struct {
	*rand.Rand
	known []known // the innermost last
	left  int     // how many nodes may be written yet
}

// known is a name: its sort is "called", "variable" or "label".
type known struct {
	name, sort string
	args       []api.Type
	result     api.Type
}

func newAuthor(seed int64) *author {
	return &author{Rand: rand.New(rand.NewSource(seed))}
}

// settings are declarations and types of pieces; some names are those of unknowns, also with other types.
var settings = []string{
	"|- com : ", "|- exp : ",
	"p : com |- com : ", "x : exp |- exp : ", "p : com, q : com, x : exp |- com : ",
	"f(com) : com, x : com |- com : ", "a : com, b : exp |- exp : ", "g(exp, val) : exp, p : exp |- com : ",
	"k : com, q(com) : com |- com : ", "c : com, f : exp |- exp : ",
}

var typeWords = []string{"com", "exp", "val"}

func (k known) head() string {
	var args []string
	for _, typ := range k.args {
		args = append(args, typeWords[typ])
	}
	return k.name + "(" + strings.Join(args, ", ") + ") : " + typeWords[k.result]
}

// piece writes a piece with the declarations and the type of a setting.
func (a *author) piece(t *testing.T, setting string, size int) *lang.Piece {
	t.Helper()
	empty, err := lang.Read(setting + "stop")
	if err != api.OK {
		t.Fatalf("no setting: %s", setting)
	}
	a.known, a.left = nil, size
	for _, d := range empty.Decls() {
		a.known = append(a.known, known{name: d.Name, sort: "called", args: d.Args, result: d.Result})
	}
	return mustRead(t, setting+a.term(empty.Type()))
}

// mixed writes a piece to which some of the rules of a book were applied, either way, at random nodes.
func (a *author) mixed(t *testing.T, b *rules.Book, setting string) *lang.Piece {
	t.Helper()
	p := a.piece(t, setting, 2+a.Intn(8))
	for range a.Intn(40) {
		q, err := b.Apply(a.Intn(b.Len()), a.Intn(4) > 0, p, a.Intn(len(p.Nodes())))
		if err == api.OK && len(q.Nodes()) < 25 {
			p = q
		}
	}
	return p
}

// some returns one of the names that are seen and fit.
func (a *author) some(sort string, fits func(k known) bool) (known, bool) {
	var found []known
	seen := map[string]bool{}
	for _, k := range slices.Backward(a.known) {
		if !seen[k.name] && k.sort == sort && fits(k) {
			found = append(found, k)
		}
		seen[k.name] = true
	}
	if len(found) == 0 {
		return known{}, false
	}
	return found[a.Intn(len(found))], true
}

// within writes a term where more names are known.
func (a *author) within(typ api.Type, more ...known) string {
	count := len(a.known)
	a.known = append(a.known, more...)
	text := a.term(typ)
	a.known = a.known[:count]
	return text
}

// block writes a block in which more names are known.
func (a *author) block(typ api.Type, more ...known) string {
	if typ == api.Com {
		return " { " + a.within(typ, more...) + " }"
	}
	return " [ " + a.within(typ, more...) + " ]"
}

// term writes a term; what cannot be written where it stands is empty.
func (a *author) term(typ api.Type) string {
	a.left--
	if a.left < 0 {
		return []string{"skip", "1"}[typ]
	}
	writers := []func(api.Type) string{a.call, a.call, a.call, a.choice, a.local, a.local, a.procedure, a.exit, a.end}
	if typ == api.Com {
		writers = append(writers, a.steps, a.steps, a.steps, a.assign, a.assign, a.assign, a.loop, a.label, a.label, a.form)
	} else {
		writers = append(writers, a.operation, a.operation, a.read, a.read, a.read, a.number, a.do)
	}
	for {
		if text := writers[a.Intn(len(writers))](typ); text != "" {
			return text
		}
	}
}

func (a *author) call(typ api.Type) string {
	k, ok := a.some("called", func(k known) bool { return k.result == typ })
	if !ok {
		return ""
	}
	var args []string
	for _, typ := range k.args {
		if typ == api.Com {
			args = append(args, "{ "+a.term(api.Com)+" }")
		} else {
			args = append(args, a.term(api.Exp))
		}
	}
	if len(args) == 0 {
		return k.name
	}
	return k.name + "(" + strings.Join(args, ", ") + ")"
}

func (a *author) choice(typ api.Type) string {
	return "if " + a.term(api.Exp) + a.block(typ) + a.block(typ)
}

func (a *author) local(typ api.Type) string {
	name := []string{"a", "b"}[a.Intn(2)]
	return "new " + name + " = " + a.term(api.Exp) + a.block(typ, known{name: name, sort: "variable"})
}

func (a *author) procedure(typ api.Type) string {
	own := known{name: []string{"f", "g"}[a.Intn(2)], sort: "called", result: api.Type(a.Intn(2))}
	var params []known
	var heads []string
	for i := range a.Intn(api.MaxArgs) {
		k := known{name: []string{"c", "a"}[i], sort: "called", result: api.Type(a.Intn(3))}
		own.args = append(own.args, k.result)
		heads = append(heads, k.name+" : "+typeWords[k.result])
		if k.result == api.Val {
			k.sort = "variable"
		}
		params = append(params, k)
	}
	head := "proc " + own.name + "(" + strings.Join(heads, ", ") + ") : " + typeWords[own.result]
	return head + a.block(own.result, params...) + a.block(typ, own)
}

func (a *author) exit(api.Type) string {
	if k, ok := a.some("label", func(known) bool { return true }); ok {
		return "exit " + k.name
	}
	return ""
}

func (a *author) end(api.Type) string {
	return []string{"", "fault", "stop"}[a.Intn(3)]
}

func (a *author) steps(api.Type) string {
	first := a.term(api.Com)
	return first + "; " + a.term(api.Com)
}

func (a *author) assign(api.Type) string {
	if k, ok := a.some("variable", func(known) bool { return true }); ok {
		return k.name + " := " + a.term(api.Exp)
	}
	return ""
}

func (a *author) loop(api.Type) string {
	return "while " + a.term(api.Exp) + a.block(api.Com)
}

func (a *author) label(api.Type) string {
	name := []string{"j", "k"}[a.Intn(2)]
	return "block " + name + a.block(api.Com, known{name: name, sort: "label"})
}

// form writes what a rule of shown asks for, and what would seldom be written otherwise.
func (a *author) form(api.Type) string {
	switch a.Intn(4) {
	case 0:
		return "while 0" + a.block(api.Com)
	case 1:
		return "stop; " + a.term(api.Com)
	case 2:
		k := known{name: "k", sort: "label"}
		first := a.within(api.Com, k)
		return "block k { " + first + "; exit k; " + a.within(api.Com, k) + " }"
	}
	u, v := known{name: "a", sort: "variable"}, known{name: "b", sort: "variable"}
	head := "new a = " + a.term(api.Exp) + " { new b = " + a.within(api.Exp, u)
	return head + " { if a" + a.block(api.Com, u, v) + " { skip } } }"
}

func (a *author) operation(api.Type) string {
	left := a.term(api.Exp)
	return "(" + left + []string{" + ", " - ", " * ", " == ", " < "}[a.Intn(5)] + a.term(api.Exp) + ")"
}

func (a *author) read(api.Type) string {
	k, _ := a.some("variable", func(known) bool { return true })
	return k.name
}

func (a *author) number(api.Type) string { return string(rune('0' + a.Intn(api.Width))) }

func (a *author) do(api.Type) string {
	return "do" + a.block(api.Com) + a.block(api.Exp)
}
