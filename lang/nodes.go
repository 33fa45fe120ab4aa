package lang

import "doppelganger/api"

// flatten appends the nodes of a term to a list.
func flatten(list []api.Node, t term) []api.Node {
	if r, ok := t.(row); ok {
		return flattenRow(list, r)
	}
	at := len(list)
	list = append(list, node(t))
	for _, kid := range kids(t) {
		list[at].Kids = append(list[at].Kids, len(list))
		list = flatten(list, kid)
	}
	return list
}

// flattenRow appends the nodes of a row: its Seq nodes, of which each is the
// first kid of the one ahead of it, and then the steps, the first two of which
// hang on the last Seq.
func flattenRow(list []api.Node, r row) []api.Node {
	first := len(list)
	for range len(r.steps) - 1 {
		n := node(r)
		n.Kids = append(n.Kids, len(list)+1)
		list = append(list, n)
	}
	for i, step := range r.steps {
		if i > 0 {
			seq := first + len(r.steps) - 1 - i
			list[seq].Kids = append(list[seq].Kids, len(list))
		}
		list = flatten(list, step)
	}
	return list
}

// assembler puts terms together from a list of nodes.
type assembler struct {
	nodes []api.Node
	end   []int // the place behind all that hangs on a node
}

// assemble returns the term of a list of nodes, and leaves by ErrArg if it is not one.
func assemble(nodes []api.Node) term {
	a := assembler{nodes: nodes, end: make([]int, len(nodes))}
	for at := len(nodes) - 1; at >= 0; at-- {
		a.end[at] = a.checked(at)
	}
	if len(nodes) == 0 || a.end[0] != len(nodes) {
		panic(api.ErrArg)
	}
	return a.term(0)
}

// checked returns the place behind all that hangs on a node, if the node and its kids are as its kind has them; the ends of all later nodes are known.
func (a *assembler) checked(at int) int {
	n := a.nodes[at]
	if !fieldsFit(n) {
		panic(api.ErrArg)
	}
	next := at + 1
	for i, kid := range n.Kids {
		if kid != next || kid >= len(a.nodes) || !kidFits(n, i, a.nodes[kid].Type) {
			panic(api.ErrArg)
		}
		next = a.end[kid]
	}
	return next
}

// term returns the term of the node at a place.
func (a *assembler) term(at int) term {
	n := a.nodes[at]
	if n.Kind == api.Seq {
		return made(n, a.steps(at))
	}
	var kids []term
	for _, kid := range n.Kids {
		kids = append(kids, a.term(kid))
	}
	return made(n, kids)
}

// steps returns the steps of the row whose outermost Seq is at a place: what is no Seq is passed as a whole, so the Seq nodes that are met are those of the row.
func (a *assembler) steps(at int) []term {
	var steps []term
	for end := a.end[at]; at < end; {
		if a.nodes[at].Kind == api.Seq {
			at++
			continue
		}
		steps = append(steps, a.term(at))
		at = a.end[at]
	}
	return steps
}

// fieldsFit reports whether the fields of a node are as its kind has them, with as many kids.
func fieldsFit(n api.Node) bool {
	return typeFits(n) && kidCountFits(n) && nameFits(n) && valueFits(n) && headFits(n)
}

func typeFits(n api.Node) bool {
	switch n.Kind {
	case api.Skip, api.Seq, api.Assign, api.While, api.Block:
		return n.Type == api.Com
	case api.Num, api.Read, api.Add, api.Sub, api.Mul, api.Equal, api.Less, api.Do:
		return n.Type == api.Exp
	case api.Stop, api.Fault, api.If, api.New, api.Call, api.Proc, api.Exit:
		return isResult(n.Type)
	}
	return false
}

func kidCountFits(n api.Node) bool {
	switch n.Kind {
	case api.Skip, api.Stop, api.Fault, api.Num, api.Read, api.Exit:
		return len(n.Kids) == 0
	case api.Assign, api.Block:
		return len(n.Kids) == 1
	case api.If:
		return len(n.Kids) == 3
	case api.Call:
		return len(n.Kids) <= api.MaxArgs
	}
	return len(n.Kids) == 2
}

func nameFits(n api.Node) bool {
	switch n.Kind {
	case api.Assign, api.New, api.Call, api.Proc, api.Read, api.Block, api.Exit:
		return isName(n.Name)
	}
	return n.Name == ""
}

func valueFits(n api.Node) bool {
	return n.Value == 0 || n.Kind == api.Num && 0 < n.Value && n.Value < api.Width
}

func headFits(n api.Node) bool {
	if n.Kind == api.Proc {
		return isResult(n.Result) && bindable(n.Params)
	}
	return len(n.Params) == 0 && n.Result == 0
}

// kidFits reports whether the i-th kid of a node, whose fields are right, may have a type.
func kidFits(n api.Node, i int, typ api.Type) bool {
	switch n.Kind {
	case api.Seq, api.Block:
		return typ == api.Com
	case api.If, api.New:
		return typ == api.Exp && i == 0 || typ == n.Type && i > 0
	case api.While:
		return typ == api.Exp && i == 0 || typ == api.Com && i == 1
	case api.Do:
		return typ == api.Com && i == 0 || typ == api.Exp && i == 1
	case api.Proc:
		return typ == n.Result && i == 0 || typ == n.Type && i == 1
	case api.Call:
		return true
	}
	return typ == api.Exp
}
