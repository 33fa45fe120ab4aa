package parts

import (
	"strconv"
	"strings"

	"doppelganger/api"
	"doppelganger/lang"
)

// client is the declared name to which the operations are handed over.
const client = "client"

// around returns the plain text of a program ahead of and behind a term of a
// type, within the variables with some values. Module texts are so much shorter
// than MaxText that their bodies can always be read in such programs.
func (m *Module) around(values state, typ api.Type) (ahead, behind string) {
	open, end := braces(typ)
	ahead = "|- " + typeWord(typ) + " : "
	for i, v := range m.variables {
		ahead += "new " + v.name + " = " + strconv.Itoa(values[i]) + " " + open + " "
		behind += " " + end
	}
	return ahead, behind
}

// bodyPiece returns the body of an operation, within the variables with their first values.
func (m *Module) bodyPiece(op operation) (*lang.Piece, api.Errno) {
	ahead, behind := m.around(m.first(), op.typ)
	return lang.Read(ahead + op.body + behind)
}

// plainBody returns the plain text of the body of an operation.
func (m *Module) plainBody(op operation) string {
	p, _ := m.bodyPiece(op)
	ahead, behind := m.around(m.first(), op.typ)
	return strings.TrimSuffix(strings.TrimPrefix(p.Text(), ahead), behind)
}

// argument returns the text of a body as an argument.
func (op operation) argument() string {
	if op.typ == api.Com {
		return "{ " + op.body + " }"
	}
	return op.body
}

// program returns the program that runs an operation once, within the variables with some values, and has the value of an expression then.
func (m *Module) program(op operation, values state, value string) (*lang.Piece, api.Errno) {
	command := op.body
	if op.typ == api.Exp {
		command = "new " + client + " = " + op.body + " { skip }"
	}
	ahead, behind := m.around(values, api.Exp)
	return lang.Read(ahead + "do { " + command + " } [ " + value + " ]" + behind)
}

func typeWord(typ api.Type) string {
	if typ == api.Com {
		return "com"
	}
	return "exp"
}

// braces returns those of a block.
func braces(typ api.Type) (open, end string) {
	if typ == api.Com {
		return "{", "}"
	}
	return "[", "]"
}
