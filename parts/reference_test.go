package parts_test

import (
	"regexp"
	"slices"
	"strconv"
	"strings"

	"doppelganger/api"
	"doppelganger/lang"
)

var (
	variableHead  = regexp.MustCompile(`^[ \t\n]*new[ \t\n]+([a-z]+)[ \t\n]*=[ \t\n]*([0-3])[ \t\n]*;`)
	operationHead = regexp.MustCompile(`^[ \t\n]*([a-z]+)[ \t\n]*:[ \t\n]*(com|exp)[ \t\n]*([{[])`)
	between       = regexp.MustCompile(`^[ \t\n]*;`)
	nothing       = regexp.MustCompile(`^[ \t\n]*$`)
)

// words are those that are no names.
var words = []string{"skip", "stop", "fault", "if", "while", "new", "proc", "block", "exit", "do", "com", "exp", "val"}

// draft is a module in parts.
type draft struct {
	names      []string
	firsts     []int
	operations []draftOperation
}

type draftOperation struct {
	name, typ, body string
}

// refer reads the text of a module as P7.1 has it: a body ends wherever it can, so that it is by the grammar of chapter 1, and what follows is, too. It knows no limits of nodes and levels.
func refer(text string) (draft, api.Errno) {
	var d draft
	rest := text
	for {
		found := variableHead.FindStringSubmatch(rest)
		if found == nil {
			break
		}
		first, _ := strconv.Atoi(found[2])
		d.names = append(d.names, found[1])
		d.firsts = append(d.firsts, first)
		rest = rest[len(found[0]):]
	}
	var ok bool
	d.operations, ok = referOperations(rest)
	if !ok || len(text) > api.MaxText-100 || !d.countsAndNamesFit() {
		return draft{}, api.ErrForm
	}
	for _, op := range d.operations {
		if err := d.referBody(op); err != api.OK {
			return draft{}, err
		}
	}
	return d, api.OK
}

// referOperations reads some operations, and tells whether there is a way to do it.
func referOperations(text string) ([]draftOperation, bool) {
	found := operationHead.FindStringSubmatch(text)
	if found == nil || (found[2] == "com") != (found[3] == "{") {
		return nil, false
	}
	text = text[len(found[0]):]
	for at := range len(text) {
		if text[at] != found[3][0]+2 || !isTerm(found[2], text[:at]) { // "}" and "]" are two behind "{" and "["
			continue
		}
		op := draftOperation{found[1], found[2], text[:at]}
		rest := text[at+1:]
		if nothing.MatchString(rest) {
			return []draftOperation{op}, true
		}
		if mark := between.FindString(rest); mark != "" {
			if more, ok := referOperations(rest[len(mark):]); ok {
				return append([]draftOperation{op}, more...), true
			}
		}
	}
	return nil, false
}

func isTerm(typ, text string) bool {
	_, err := lang.Read("|- " + typ + " : " + text)
	return err != api.ErrForm
}

func (d draft) countsAndNamesFit() bool {
	names := slices.Clone(d.names)
	for _, op := range d.operations {
		names = append(names, op.name)
	}
	for i, name := range names {
		if len(name) > api.MaxName || slices.Contains(words, name) || slices.Contains(names[:i], name) {
			return false
		}
	}
	return len(d.names) <= api.MaxHidden && len(d.operations) <= api.MaxArgs && !slices.Contains(d.names, "client")
}

// referBody reads a body in procedures, of which the variables are parameters by value.
func (d draft) referBody(op draftOperation) api.Errno {
	open, end := "{", "}"
	if op.typ == "exp" {
		open, end = "[", "]"
	}
	text := op.body
	for _, name := range slices.Backward(d.names) {
		text = "proc p(" + name + " : val) : " + op.typ + " " + open + " " + text + " " + end + " " + open + " stop " + end
	}
	_, err := lang.Read("|- " + op.typ + " : " + text)
	return err
}

// text writes a module.
func (d draft) text() string {
	var items []string
	for i, name := range d.names {
		items = append(items, "new "+name+" = "+strconv.Itoa(d.firsts[i]))
	}
	for _, op := range d.operations {
		block := "{ " + op.body + " }"
		if op.typ == "exp" {
			block = "[ " + op.body + " ]"
		}
		items = append(items, op.name+": "+op.typ+" "+block)
	}
	return strings.Join(items, "; ")
}
