package lang

import (
	"strconv"
	"strings"

	"doppelganger/api"
)

// text returns the plain text of a term.
func text(t term) string {
	switch t := t.(type) {
	case simple:
		return simpleWord(t.kind)
	case number:
		return strconv.Itoa(t.value)
	case read:
		return t.name
	case exit:
		return "exit " + t.name
	case row:
		return strings.Join(each(t.steps, text), "; ")
	case assign:
		return t.name + " := " + text(t.value)
	case choice:
		return "if " + text(t.test) + " " + blockText(t.yes) + " " + blockText(t.no)
	case loop:
		return "while " + text(t.test) + " " + blockText(t.body)
	case local:
		return "new " + t.name + " = " + text(t.value) + " " + blockText(t.block)
	case call:
		return callText(t)
	case proc:
		return "proc " + headText(t) + " " + blockText(t.body) + " " + blockText(t.block)
	case operation:
		return operationText(t)
	case do:
		return "do " + blockText(t.command) + " " + blockText(t.value)
	case block:
		return "block " + t.name + " " + blockText(t.body)
	}
	return ""
}

// blockText returns a term in the braces of commands, or in the brackets of expressions.
func blockText(t term) string {
	open, end := braces(t.result())
	return open + " " + text(t) + " " + end
}

func callText(t call) string {
	if len(t.args) == 0 {
		return t.name
	}
	return t.name + "(" + strings.Join(each(t.args, argText), ", ") + ")"
}

func argText(arg term) string {
	if arg.result() == api.Com {
		return blockText(arg)
	}
	return text(arg)
}

func headText(t proc) string {
	params := each(t.params, func(p api.Param) string { return p.Name + " : " + typeWord(p.Type) })
	return t.name + "(" + strings.Join(params, ", ") + ") : " + typeWord(t.gives)
}

func declText(d api.Decl) string {
	args := ""
	if len(d.Args) > 0 {
		args = "(" + strings.Join(each(d.Args, typeWord), ", ") + ")"
	}
	return d.Name + args + " : " + typeWord(d.Result)
}

func operationText(t operation) string {
	own := rank(t.kind)
	left := own
	if t.kind == api.Equal || t.kind == api.Less {
		left = own + 1 // comparisons do not stand in a row
	}
	return operandText(t.left, left) + " " + operatorMark(t.kind) + " " + operandText(t.right, own+1)
}

// operandText returns the text of an operand, in parentheses if it is an operator of less than a rank.
func operandText(t term, least int) string {
	if o, ok := t.(operation); ok && rank(o.kind) < least {
		return "(" + text(t) + ")"
	}
	return text(t)
}

func rank(kind int) int {
	switch kind {
	case api.Equal, api.Less:
		return 1
	case api.Add, api.Sub:
		return 2
	}
	return 3
}

func operatorMark(kind int) string {
	switch kind {
	case api.Add:
		return "+"
	case api.Sub:
		return "-"
	case api.Mul:
		return "*"
	case api.Equal:
		return "=="
	}
	return "<"
}

func simpleWord(kind int) string {
	switch kind {
	case api.Skip:
		return "skip"
	case api.Stop:
		return "stop"
	}
	return "fault"
}

func typeWord(typ api.Type) string {
	switch typ {
	case api.Com:
		return "com"
	case api.Exp:
		return "exp"
	}
	return "val"
}

func braces(typ api.Type) (open, end string) {
	if typ == api.Com {
		return "{", "}"
	}
	return "[", "]"
}
