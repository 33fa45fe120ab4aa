package tell

import "doppelganger/api"

// term is a node with the terms that hang on it, which are kept instead of their places in a list.
type term struct {
	api.Node
	kids []*term
}

// on returns the term of a node on which some terms hang.
func on(n api.Node, kids ...*term) *term {
	return &term{n, kids}
}

// list appends the nodes of a term to a list, each ahead of its kids.
func (t *term) list(nodes []api.Node) []api.Node {
	at := len(nodes)
	nodes = append(nodes, t.Node)
	for _, kid := range t.kids {
		nodes[at].Kids = append(nodes[at].Kids, len(nodes))
		nodes = kid.list(nodes)
	}
	return nodes
}

func skip() *term               { return on(api.Node{Kind: api.Skip}) }
func fault() *term              { return on(api.Node{Kind: api.Fault}) }
func stop(typ api.Type) *term   { return on(api.Node{Kind: api.Stop, Type: typ}) }
func number(value int) *term    { return on(api.Node{Kind: api.Num, Type: api.Exp, Value: value}) }
func read(name string) *term    { return on(api.Node{Kind: api.Read, Type: api.Exp, Name: name}) }
func exit(label string) *term   { return on(api.Node{Kind: api.Exit, Name: label}) }
func while(test, c *term) *term { return on(api.Node{Kind: api.While}, test, c) }

func assign(name string, value *term) *term {
	return on(api.Node{Kind: api.Assign, Name: name}, value)
}

func operate(kind int, left, right *term) *term {
	return on(api.Node{Kind: kind, Type: api.Exp}, left, right)
}

func isValue(name string, value int) *term {
	return operate(api.Equal, read(name), number(value))
}

func choice(test, yes, no *term) *term {
	return on(api.Node{Kind: api.If, Type: yes.Type}, test, yes, no)
}

func local(name string, value, block *term) *term {
	return on(api.Node{Kind: api.New, Type: block.Type, Name: name}, value, block)
}

func do(command, value *term) *term {
	return on(api.Node{Kind: api.Do, Type: api.Exp}, command, value)
}

func labelled(label string, command *term) *term {
	return on(api.Node{Kind: api.Block, Name: label}, command)
}

func call(name string, typ api.Type, args ...*term) *term {
	return on(api.Node{Kind: api.Call, Type: typ, Name: name}, args...)
}

func procedure(name string, params []api.Param, body, block *term) *term {
	return on(api.Node{Kind: api.Proc, Type: block.Type, Name: name, Params: params, Result: body.Type}, body, block)
}

// steps returns the row of some commands, of which there is at least one.
func steps(commands ...*term) *term {
	row := commands[0]
	for _, next := range commands[1:] {
		row = on(api.Node{Kind: api.Seq}, row, next)
	}
	return row
}
