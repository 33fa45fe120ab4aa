package lang

import (
	"slices"

	"doppelganger/api"
)

// term is a node of a term with all that hangs on it. A row of steps is one
// term, whatever shape it was given in. No term is ever changed, so pieces may
// share them.
type term interface {
	result() api.Type // Com or Exp
}

type (
	// simple is Skip, Stop or Fault.
	simple struct {
		kind int
		typ  api.Type
	}
	number struct {
		value int
	}
	read struct {
		name string
	}
	exit struct {
		name string
		typ  api.Type
	}
	// row has at least two steps, none of which is a row.
	row struct {
		steps []term
	}
	assign struct {
		name  string
		value term
	}
	choice struct {
		typ           api.Type
		test, yes, no term
	}
	loop struct {
		test, body term
	}
	// local is New.
	local struct {
		name         string
		typ          api.Type
		value, block term
	}
	call struct {
		name string
		typ  api.Type
		args []term
	}
	proc struct {
		name        string
		params      []api.Param
		gives, typ  api.Type // of the body, of the block
		body, block term
	}
	// operation is Add, Sub, Mul, Equal or Less.
	operation struct {
		kind        int
		left, right term
	}
	do struct {
		command, value term
	}
	block struct {
		name string
		body term
	}
)

func (t simple) result() api.Type    { return t.typ }
func (t number) result() api.Type    { return api.Exp }
func (t read) result() api.Type      { return api.Exp }
func (t exit) result() api.Type      { return t.typ }
func (t row) result() api.Type       { return api.Com }
func (t assign) result() api.Type    { return api.Com }
func (t choice) result() api.Type    { return t.typ }
func (t loop) result() api.Type      { return api.Com }
func (t local) result() api.Type     { return t.typ }
func (t call) result() api.Type      { return t.typ }
func (t proc) result() api.Type      { return t.typ }
func (t operation) result() api.Type { return api.Exp }
func (t do) result() api.Type        { return api.Exp }
func (t block) result() api.Type     { return api.Com }

// kids returns what hangs on a term, in order.
func kids(t term) []term {
	switch t := t.(type) {
	case row:
		return t.steps
	case assign:
		return []term{t.value}
	case choice:
		return []term{t.test, t.yes, t.no}
	case loop:
		return []term{t.test, t.body}
	case local:
		return []term{t.value, t.block}
	case call:
		return t.args
	case proc:
		return []term{t.body, t.block}
	case operation:
		return []term{t.left, t.right}
	case do:
		return []term{t.command, t.value}
	case block:
		return []term{t.body}
	}
	return nil
}

// node returns the node of a term, without kids; of a row, that of one of its Seq nodes.
func node(t term) api.Node {
	n := api.Node{Type: t.result()}
	switch t := t.(type) {
	case simple:
		n.Kind = t.kind
	case number:
		n.Kind, n.Value = api.Num, t.value
	case read:
		n.Kind, n.Name = api.Read, t.name
	case exit:
		n.Kind, n.Name = api.Exit, t.name
	case row:
		n.Kind = api.Seq
	case assign:
		n.Kind, n.Name = api.Assign, t.name
	case choice:
		n.Kind = api.If
	case loop:
		n.Kind = api.While
	case local:
		n.Kind, n.Name = api.New, t.name
	case call:
		n.Kind, n.Name = api.Call, t.name
	case proc:
		n.Kind, n.Name, n.Result = api.Proc, t.name, t.gives
		n.Params = slices.Clone(t.params)
	case operation:
		n.Kind = t.kind
	case do:
		n.Kind = api.Do
	case block:
		n.Kind, n.Name = api.Block, t.name
	}
	return n
}

// made returns the term of a node on which some terms hang, as many as its kind has; a Seq may have any number of steps.
func made(n api.Node, kids []term) term {
	switch n.Kind {
	case api.Num:
		return number{n.Value}
	case api.Read:
		return read{n.Name}
	case api.Exit:
		return exit{n.Name, n.Type}
	case api.Seq:
		return joined(kids)
	case api.Assign:
		return assign{n.Name, kids[0]}
	case api.If:
		return choice{n.Type, kids[0], kids[1], kids[2]}
	case api.While:
		return loop{kids[0], kids[1]}
	case api.New:
		return local{n.Name, n.Type, kids[0], kids[1]}
	case api.Call:
		return call{n.Name, n.Type, kids}
	case api.Proc:
		return proc{n.Name, slices.Clone(n.Params), n.Result, n.Type, kids[0], kids[1]}
	case api.Add, api.Sub, api.Mul, api.Equal, api.Less:
		return operation{n.Kind, kids[0], kids[1]}
	case api.Do:
		return do{kids[0], kids[1]}
	case api.Block:
		return block{n.Name, kids[0]}
	}
	return simple{n.Kind, n.Type}
}

// joined returns the row of some steps, those of rows among them one by one; a single step stands for itself.
func joined(steps []term) term {
	var all []term
	for _, step := range steps {
		if inner, ok := step.(row); ok {
			all = append(all, inner.steps...)
		} else {
			all = append(all, step)
		}
	}
	if len(all) == 1 {
		return all[0]
	}
	return row{all}
}

// measure returns the number of nodes of a term and of their levels.
func measure(t term) (nodes, levels int) {
	nodes = 1
	if r, ok := t.(row); ok {
		nodes = len(r.steps) - 1
	}
	for _, kid := range kids(t) {
		more, below := measure(kid)
		nodes += more
		levels = max(levels, below)
	}
	return nodes, levels + 1
}
