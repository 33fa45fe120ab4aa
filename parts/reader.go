package parts

import (
	"doppelganger/api"
	"doppelganger/lang"
)

// part is a word or another byte of a text, and where it begins.
type part struct {
	word string
	at   int
}

// partList is what is left of the parts of a text.
type partList struct {
	parts []part
	wrong bool // whether something came that is not by the grammar
}

// split returns the parts of a text. Marks of two bytes are split, too: they
// stand in bodies alone, which are read as a whole by package lang.
func split(text string) partList {
	var list partList
	for at := 0; at < len(text); {
		length := max(1, letters(text[at:]))
		if !isSpace(text[at]) {
			list.parts = append(list.parts, part{text[at : at+length], at})
		}
		at += length
	}
	return list
}

// take takes the part that comes next; at the end it is one without a word.
func (l *partList) take() part {
	if len(l.parts) == 0 {
		l.wrong = true
		return part{}
	}
	next := l.parts[0]
	l.parts = l.parts[1:]
	return next
}

// accept takes a word if it comes next.
func (l *partList) accept(word string) bool {
	if len(l.parts) == 0 || l.parts[0].word != word {
		return false
	}
	l.take()
	return true
}

// expect takes a word that has to come next.
func (l *partList) expect(word string) part {
	next := l.take()
	if next.word != word {
		l.wrong = true
	}
	return next
}

// reader reads the text of a module, but for what stands in the bodies.
type reader struct {
	partList
	text string
}

// parse returns the module of a text, and whether it is by the grammar, but for what stands in the bodies.
func parse(text string) (*Module, bool) {
	if len(text) > api.MaxText-100 {
		return nil, false
	}
	r := reader{split(text), text}
	m := &Module{}
	for r.accept("new") {
		m.variables = append(m.variables, r.variable())
	}
	m.operations = append(m.operations, r.operation())
	for r.accept(";") {
		m.operations = append(m.operations, r.operation())
	}
	if r.wrong || len(r.parts) > 0 || !m.countsFit() || !m.namesFit() {
		return nil, false
	}
	return m, true
}

// variable reads what follows the word new.
func (r *reader) variable() variable {
	v := variable{name: r.name()}
	r.expect("=")
	v.first = r.digit()
	r.expect(";")
	return v
}

func (r *reader) operation() operation {
	op := operation{name: r.name()}
	r.expect(":")
	op.typ = r.typ()
	op.body = r.body(op.typ)
	return op
}

// body reads a block, and returns the text of what stands in it. Braces of its
// own kind alone tell where it ends: they are even in every term, and what is
// no term is found out by package lang.
func (r *reader) body(typ api.Type) string {
	open, end := braces(typ)
	from := r.expect(open).at + len(open)
	for depth := 1; !r.wrong; {
		next := r.take()
		switch next.word {
		case open:
			depth++
		case end:
			depth--
		}
		if depth == 0 {
			return r.text[from:next.at]
		}
	}
	return ""
}

func (r *reader) name() string {
	next := r.take()
	if !isName(next.word) {
		r.wrong = true
	}
	return next.word
}

func (r *reader) digit() int {
	word := r.take().word
	if len(word) != 1 || word[0] < '0' || word[0] >= '0'+api.Width {
		r.wrong = true
		return 0
	}
	return int(word[0] - '0')
}

func (r *reader) typ() api.Type {
	word := r.take().word
	if word == typeWord(api.Exp) {
		return api.Exp
	}
	if word != typeWord(api.Com) {
		r.wrong = true
	}
	return api.Com
}

// countsFit reports whether a module has no more variables and operations than it may have.
func (m *Module) countsFit() bool {
	return len(m.variables) <= api.MaxHidden && len(m.operations) <= api.MaxArgs
}

// namesFit reports whether all names are different, and no variable hides the client.
func (m *Module) namesFit() bool {
	used := map[string]bool{}
	for _, v := range m.variables {
		if used[v.name] || v.name == client {
			return false
		}
		used[v.name] = true
	}
	for _, op := range m.operations {
		if used[op.name] {
			return false
		}
		used[op.name] = true
	}
	return true
}

// isName reports whether a word may be a name: then it can be declared.
func isName(word string) bool {
	_, err := lang.Build([]api.Decl{{Name: word}}, api.Com, []api.Node{{Kind: api.Skip}})
	return err == api.OK
}

// letters returns the number of letters with which a text begins.
func letters(text string) int {
	for i := range len(text) {
		if text[i] < 'a' || text[i] > 'z' {
			return i
		}
	}
	return len(text)
}

func isSpace(c byte) bool {
	return c == ' ' || c == '\t' || c == '\n'
}
