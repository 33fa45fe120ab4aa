package rules

import (
	"slices"

	"doppelganger/api"
	"doppelganger/lang"
)

// term is a node with the terms that hang on it, which are kept instead of
// their places in a list. A term may stand in several places.
type term struct {
	api.Node
	kids    []*term
	size    int  // the number of its nodes
	unknown bool // whether it is a call of an unknown, in a side of a rule
}

// on returns the term of a node on which some terms hang.
func on(n api.Node, kids []*term) *term {
	n.Kids = nil
	size := 1
	for _, kid := range kids {
		size += kid.size
	}
	return &term{Node: n, kids: kids, size: size}
}

// termsOf returns the terms of the nodes of a piece.
func termsOf(p *lang.Piece) []*term {
	nodes := p.Nodes()
	terms := make([]*term, len(nodes))
	for at, n := range slices.Backward(nodes) {
		var kids []*term
		for _, kid := range n.Kids {
			kids = append(kids, terms[kid])
		}
		terms[at] = on(n, kids)
	}
	return terms
}

// list appends the nodes of a term to a list, each ahead of its kids.
func (t *term) list(nodes []api.Node) []api.Node {
	at := len(nodes)
	nodes = append(nodes, t.Node)
	for _, kid := range t.kids {
		nodes[at].Kids = append(nodes[at].Kids, len(nodes))
		nodes = kid.list(nodes)
	}
	return nodes
}

// with returns a term in which others stand in the place of some: instead tells of a term which one, nil if it stays.
func (t *term) with(instead func(t *term) *term) *term {
	if other := instead(t); other != nil {
		return other
	}
	var kids []*term
	for _, kid := range t.kids {
		kids = append(kids, kid.with(instead))
	}
	return on(t.Node, kids)
}

// replaced returns a piece, of which the terms are given, with another term in the place of the one of a node.
func replaced(p *lang.Piece, terms []*term, node int, other *term) (*lang.Piece, api.Errno) {
	root := terms[0].with(func(t *term) *term {
		if t == terms[node] {
			return other
		}
		return nil
	})
	return lang.Build(p.Decls(), p.Type(), root.list(nil))
}

// isSame reports whether two terms are the same one, node by node.
func isSame(a, b *term) bool {
	return a.size == b.size && isAlike(a, b) && slices.EqualFunc(a.kids, b.kids, isSame)
}

// isAlike reports whether the nodes of two terms are the same, without what hangs on them.
func isAlike(a, b *term) bool {
	return a.Kind == b.Kind && a.Type == b.Type && a.Name == b.Name && a.Value == b.Value &&
		a.Result == b.Result && slices.Equal(a.Params, b.Params) && len(a.kids) == len(b.kids)
}

// binds returns the names that a node binds in its i-th kid.
func binds(n api.Node, i int) []string {
	switch {
	case n.Kind == api.Proc && i == 0:
		var names []string
		for _, param := range n.Params {
			names = append(names, param.Name)
		}
		return names
	case n.Kind == api.Proc, n.Kind == api.Block, n.Kind == api.New && i == 1:
		return []string{n.Name}
	}
	return nil
}

// usesName reports whether a node has a name that is used there.
func usesName(n api.Node) bool {
	switch n.Kind {
	case api.Assign, api.Call, api.Read, api.Exit:
		return true
	}
	return false
}

// standsFree reports whether one of some names stands free in a term.
func standsFree(names []string, t *term) bool {
	if len(names) == 0 {
		return false
	}
	if usesName(t.Node) && slices.Contains(names, t.Name) {
		return true
	}
	for i, kid := range t.kids {
		if standsFree(without(names, binds(t.Node, i)), kid) {
			return true
		}
	}
	return false
}

// without returns the names that are none of some other ones.
func without(names, others []string) []string {
	if len(others) == 0 {
		return names
	}
	var left []string
	for _, name := range names {
		if !slices.Contains(others, name) {
			left = append(left, name)
		}
	}
	return left
}
