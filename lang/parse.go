package lang

import (
	"slices"

	"doppelganger/api"
)

// parser reads a text part by part, and leaves by ErrForm where it is not by the grammar.
type parser struct {
	parts []string // words, digits and marks
	at    int
}

// parse returns what a text is by the grammar; a name that stands as an expression is a call.
func parse(text string) Piece {
	if len(text) > api.MaxText {
		panic(api.ErrForm)
	}
	p := parser{parts: split(text)}
	piece := p.piece()
	if p.next() != "" {
		panic(api.ErrForm)
	}
	return piece
}

// next returns the part that comes next, "" at the end.
func (p *parser) next() string {
	if p.at == len(p.parts) {
		return ""
	}
	return p.parts[p.at]
}

func (p *parser) take() string {
	part := p.next()
	if part == "" {
		panic(api.ErrForm)
	}
	p.at++
	return part
}

// accept takes a part if it comes next.
func (p *parser) accept(part string) bool {
	if p.next() != part {
		return false
	}
	p.at++
	return true
}

func (p *parser) expect(part string) {
	if !p.accept(part) {
		panic(api.ErrForm)
	}
}

func (p *parser) name() string {
	name := p.take()
	if !isName(name) {
		panic(api.ErrForm)
	}
	return name
}

// list reads one item or more, with commas between, but not more than most.
func (p *parser) list(most int, item func()) {
	for count := 1; ; count++ {
		if count > most {
			panic(api.ErrForm)
		}
		item()
		if !p.accept(",") {
			return
		}
	}
}

func (p *parser) piece() Piece {
	var decls []api.Decl
	if p.next() != "|-" {
		p.list(api.MaxDecls, func() { decls = append(decls, p.decl()) })
	}
	if !declarable(decls) {
		panic(api.ErrForm)
	}
	p.expect("|-")
	typ := p.result()
	p.expect(":")
	return Piece{decls: decls, typ: typ, root: p.term(typ)}
}

func (p *parser) decl() api.Decl {
	d := api.Decl{Name: p.name()}
	if p.accept("(") {
		p.list(api.MaxArgs, func() { d.Args = append(d.Args, p.typ()) })
		p.expect(")")
	}
	p.expect(":")
	d.Result = p.result()
	return d
}

func (p *parser) result() api.Type {
	typ := p.typ()
	if !isResult(typ) {
		panic(api.ErrForm)
	}
	return typ
}

func (p *parser) typ() api.Type {
	word := p.take()
	for typ := api.Com; typ <= api.Val; typ++ {
		if word == typeWord(typ) {
			return typ
		}
	}
	panic(api.ErrForm)
}

// term reads a row of steps or an expression.
func (p *parser) term(typ api.Type) term {
	if typ == api.Exp {
		return p.exp()
	}
	steps := []term{p.step()}
	for p.accept(";") {
		step := p.step()
		steps = append(steps, step)
	}
	return joined(steps)
}

// block reads a term in the braces of commands, or in the brackets of expressions.
func (p *parser) block(typ api.Type) term {
	open, end := braces(typ)
	p.expect(open)
	t := p.term(typ)
	p.expect(end)
	return t
}

func (p *parser) step() term {
	switch word := p.take(); word {
	case "skip":
		return simple{api.Skip, api.Com}
	case "while":
		test := p.exp()
		return loop{test, p.block(api.Com)}
	case "block":
		name := p.name()
		return block{name, p.block(api.Com)}
	default:
		return p.either(word, api.Com)
	}
}

func (p *parser) atom() term {
	word := p.take()
	if isDigit(word) {
		return number{int(word[0] - '0')}
	}
	switch word {
	case "(":
		t := p.exp()
		p.expect(")")
		return t
	case "do":
		command := p.block(api.Com)
		return do{command, p.block(api.Exp)}
	}
	return p.either(word, api.Exp)
}

// either reads what begins with a word and may have either type.
func (p *parser) either(word string, typ api.Type) term {
	switch word {
	case "stop":
		return simple{api.Stop, typ}
	case "fault":
		return simple{api.Fault, typ}
	case "exit":
		return exit{p.name(), typ}
	case "if":
		test := p.exp()
		yes := p.block(typ)
		return choice{typ, test, yes, p.block(typ)}
	case "new":
		name := p.name()
		p.expect("=")
		value := p.exp()
		return local{name, typ, value, p.block(typ)}
	case "proc":
		return p.proc(typ)
	}
	if !isName(word) {
		panic(api.ErrForm)
	}
	if typ == api.Com && p.accept(":=") {
		return assign{word, p.exp()}
	}
	return p.call(word, typ)
}

func (p *parser) proc(typ api.Type) term {
	t := proc{name: p.name(), typ: typ}
	p.expect("(")
	if p.next() != ")" {
		p.list(api.MaxArgs, func() { t.params = append(t.params, p.param()) })
	}
	p.expect(")")
	if !bindable(t.params) {
		panic(api.ErrForm)
	}
	p.expect(":")
	t.gives = p.result()
	t.body = p.block(t.gives)
	t.block = p.block(typ)
	return t
}

func (p *parser) param() api.Param {
	name := p.name()
	p.expect(":")
	return api.Param{Name: name, Type: p.typ()}
}

func (p *parser) call(name string, typ api.Type) term {
	t := call{name: name, typ: typ}
	if p.accept("(") {
		p.list(api.MaxArgs, func() { t.args = append(t.args, p.arg()) })
		p.expect(")")
	}
	return t
}

func (p *parser) arg() term {
	if p.next() == "{" {
		return p.block(api.Com)
	}
	return p.exp()
}

func (p *parser) exp() term {
	left := p.sum()
	if kind, ok := p.comparison(); ok {
		return operation{kind, left, p.sum()}
	}
	return left
}

func (p *parser) sum() term {
	return p.chain(p.product, p.addition)
}

func (p *parser) product() term {
	return p.chain(p.atom, p.multiplication)
}

// chain reads operands with operators between, and puts them together from the left; operator tells which one comes next, and whether one does.
func (p *parser) chain(operand func() term, operator func() (int, bool)) term {
	left := operand()
	for {
		kind, ok := operator()
		if !ok {
			return left
		}
		left = operation{kind, left, operand()}
	}
}

func (p *parser) comparison() (int, bool) {
	return p.operator(api.Equal, api.Less)
}

func (p *parser) addition() (int, bool) {
	return p.operator(api.Add, api.Sub)
}

func (p *parser) multiplication() (int, bool) {
	return p.operator(api.Mul)
}

// operator takes an operator of one of some kinds, if one comes next.
func (p *parser) operator(kinds ...int) (int, bool) {
	at := slices.IndexFunc(kinds, func(kind int) bool { return p.accept(operatorMark(kind)) })
	if at < 0 {
		return 0, false
	}
	return kinds[at], true
}
