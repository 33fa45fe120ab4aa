package moves

import (
	"slices"

	"doppelganger/api"
	"doppelganger/lang"
)

// none is the place of nothing.
const none = -1

// place is a node of the unfolded term. While it is run, the stack has what is
// open there, the outermost first: variables, left operands of operators, and
// arguments by value.
type place struct {
	kind   int
	value  int       // of a Num
	slot   int       // of a Read or an Assign: where the variable is on the stack
	block  int       // of an Exit: the place of the Block that it leaves
	decl   *api.Decl // of a Call
	kids   []int
	outer  int // the place of which it is a kid, none of the root
	which  int // which kid it is
	height int // the numbers on the stack ahead of it
}

// spot is where a term is put.
type spot struct {
	outer, which, height int // of the place there
	inside               inside
}

// inside counts the arguments by name in which something stands: for each name
// and argument, in how many calls.
type inside [api.MaxDecls * api.MaxArgs]int

// unfolder puts the unfolded term of a piece together.
type unfolder struct {
	nodes  []api.Node
	places []place
	todo   []func() // each puts a term into a spot; they are not nested in each other, since there may be thousands of levels
}

// unfold returns the unfolded term of a piece, the root first; it leaves by ErrFull if this is too great, or beyond the border.
func unfold(p *lang.Piece) []place {
	u := unfolder{nodes: p.Nodes()}
	var names *scope
	for i, d := range p.Decls() {
		names = names.with(d.Name, u.declared(i, &d))
	}
	u.later(0, names, spot{outer: none})
	for len(u.todo) > 0 {
		last := len(u.todo) - 1
		next := u.todo[last]
		u.todo = u.todo[:last]
		next()
	}
	return u.places
}

func (u *unfolder) later(at int, here *scope, s spot) {
	u.todo = append(u.todo, func() { u.put(at, here, s) })
}

// put puts the term of a node into a spot.
func (u *unfolder) put(at int, here *scope, s spot) {
	n := &u.nodes[at]
	switch n.Kind {
	case api.Proc:
		u.put(n.Kids[1], here.with(n.Name, u.procedure(n, here)), s)
	case api.Call:
		args := make([]*meaning, len(n.Kids))
		for i, kid := range n.Kids {
			args[i] = u.argument(kid, here)
		}
		here.find(n.Name).put(args, s)
	case api.New:
		block := u.variable(u.argument(n.Kids[0], here), s)
		u.later(n.Kids[1], here.with(n.Name, &meaning{slot: s.height}), block)
	case api.Block:
		own := u.add(place{kind: n.Kind}, 1, s)
		bound := &meaning{label: label{block: own, inside: s.inside}}
		u.later(n.Kids[0], here.with(n.Name, bound), s.kid(own, 0, 0))
	case api.Exit:
		left := here.find(n.Name).label
		if s.inside.isBeyond(left.inside) {
			panic(api.ErrFull)
		}
		u.add(place{kind: n.Kind, block: left.block}, 0, s)
	default:
		u.plain(n, here, s)
	}
}

// plain puts a node with the terms of its kids into a spot.
func (u *unfolder) plain(n *api.Node, here *scope, s spot) {
	p := place{kind: n.Kind, value: n.Value}
	if n.Kind == api.Read || n.Kind == api.Assign {
		p.slot = here.find(n.Name).slot
	}
	own := u.add(p, len(n.Kids), s)
	open := 0
	for i, kid := range n.Kids {
		u.later(kid, here, s.kid(own, i, open))
		if isOperator(n.Kind) {
			open = 1 // the left operand
		}
	}
}

func isOperator(kind int) bool {
	switch kind {
	case api.Add, api.Sub, api.Mul, api.Equal, api.Less:
		return true
	}
	return false
}

// add puts a node into a spot, and returns its place.
func (u *unfolder) add(p place, kids int, s spot) int {
	own := len(u.places)
	if own == api.MaxInner {
		panic(api.ErrFull)
	}
	p.kids = make([]int, kids)
	p.outer, p.which, p.height = s.outer, s.which, s.height
	u.places = append(u.places, p)
	if p.outer != none {
		u.places[p.outer].kids[p.which] = own
	}
	return own
}

// variable puts a New into a spot, and returns the spot of its block.
func (u *unfolder) variable(value *meaning, s spot) spot {
	own := u.add(place{kind: api.New}, 2, s)
	u.hand(value, s.kid(own, 0, 0))
	return s.kid(own, 1, 1)
}

// hand puts an argument into a spot, later.
func (u *unfolder) hand(arg *meaning, s spot) {
	u.todo = append(u.todo, func() { arg.put(nil, s) })
}

// declared returns the meaning of a declared name: its calls stay.
func (u *unfolder) declared(name int, d *api.Decl) *meaning {
	m := &meaning{}
	m.put = func(args []*meaning, s spot) {
		own := u.add(place{kind: api.Call, decl: d}, len(args), s)
		open := 0
		for i, arg := range args {
			if d.Args[i] == api.Val {
				u.hand(arg, s.kid(own, i, open))
				open++
				continue
			}
			within := s.kid(own, i, 0)
			within.inside[name*api.MaxArgs+i]++
			u.hand(arg, within)
		}
	}
	return m
}

// procedure returns the meaning of a procedure.
func (u *unfolder) procedure(n *api.Node, outer *scope) *meaning {
	m := &meaning{}
	m.put = func(args []*meaning, s spot) { u.call(n, outer, args, s) }
	// What is left of its body is looked for with parameters for which no
	// arguments stand yet. A parameter by value leaves a New.
	params := make([]*meaning, len(n.Params))
	inner := outer
	for i, p := range n.Params {
		if p.Type == api.Val {
			return m
		}
		params[i] = parameter(nil)
		inner = inner.with(p.Name, params[i])
	}
	core := u.core(n.Kids[0], inner)
	if core == nil {
		return m
	}
	own := slices.Index(params, core)
	if own < 0 {
		return core
	}
	m.put = func(args []*meaning, s spot) { args[own].put(nil, s) }
	m.core = func(ofArg func(int) *meaning) *meaning { return ofArg(own) }
	return m
}

// call puts the body of a procedure into a spot, within its parameters by value.
func (u *unfolder) call(n *api.Node, outer *scope, args []*meaning, s spot) {
	inner := outer
	for i, p := range n.Params {
		bound := args[i]
		if p.Type == api.Val {
			bound = &meaning{slot: s.height}
			s = u.variable(args[i], s)
		}
		inner = inner.with(p.Name, bound)
	}
	u.put(n.Kids[0], inner, s)
}

// argument returns the meaning of a parameter for which the term of a node is handed over.
func (u *unfolder) argument(at int, here *scope) *meaning {
	return parameter(func(s spot) { u.put(at, here, s) })
}

// core returns the parameter that alone is left of a term, nil if the term has
// nodes of its own. Procedures of which no nodes are left may call each other so
// often that no one could follow all their calls: each of two, and these of two
// more, and so on. So these calls are not followed.
func (u *unfolder) core(at int, here *scope) *meaning {
	n := &u.nodes[at]
	switch n.Kind {
	case api.Proc:
		return u.core(n.Kids[1], here.with(n.Name, u.procedure(n, here)))
	case api.Call:
		called := here.find(n.Name)
		if called.core == nil {
			return nil
		}
		return called.core(func(i int) *meaning { return u.core(n.Kids[i], here) })
	}
	return nil
}

// kid returns the spot of a kid of a place that stands in this one, with more numbers on the stack.
func (s spot) kid(own, which, more int) spot {
	return spot{outer: own, which: which, height: s.height + more, inside: s.inside}
}

// isBeyond reports whether what leaves a block from here is beyond the border: it
// leaves an argument, and the block stands within an argument of the same name and
// place.
func (i inside) isBeyond(block inside) bool {
	for arg, calls := range i {
		if calls > block[arg] && block[arg] > 0 {
			return true
		}
	}
	return false
}
