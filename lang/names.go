package lang

import (
	"slices"

	"doppelganger/api"
)

// The sorts of what binds a name.
const (
	declared  = iota // a declaration
	procedure        // a procedure, or a parameter that is called
	variable         // a variable, or a parameter that is a value
	label
)

// binding is what binds a name; what is called has types.
type binding struct {
	name   string
	sort   int
	args   []api.Type
	result api.Type
}

// bindings is what binds names at a place of a term, the innermost last.
type bindings struct {
	list []binding
}

func (b *bindings) bind(more []binding) {
	b.list = append(b.list, more...)
}

// release takes back the bindings that were added last.
func (b *bindings) release(count int) {
	b.list = b.list[:len(b.list)-count]
}

// find returns what binds a name, and whether anything does.
func (b *bindings) find(name string) (binding, bool) {
	for i := len(b.list) - 1; i >= 0; i-- {
		if b.list[i].name == name {
			return b.list[i], true
		}
	}
	return binding{}, false
}

// reader goes through terms, each node ahead of what hangs on it, with what binds names there.
type reader struct {
	bindings
	use func(t term) term // what stands in the place of a node with a name that is used, nil for the node as it is
}

// piece returns the piece of a term that was gone through, unless it exceeds a limit.
func (r *reader) piece(decls []api.Decl, typ api.Type, root term) *Piece {
	decls = copyDecls(decls)
	r.bind(each(decls, declBinding))
	p := &Piece{decls: decls, typ: typ, root: r.walk(root)}
	if nodes, levels := measure(p.root); nodes > api.MaxNodes || levels > api.MaxNest {
		panic(api.ErrFull)
	}
	return p
}

// walk returns a term with what use makes of its nodes.
func (r *reader) walk(t term) term {
	if usesName(t) {
		if instead := r.use(t); instead != nil {
			return instead
		}
	}
	old := kids(t)
	if len(old) == 0 {
		return t
	}
	changed := make([]term, len(old))
	for i, kid := range old {
		bound := binds(t, i)
		r.bind(bound)
		changed[i] = r.walk(kid)
		r.release(len(bound))
	}
	return made(node(t), changed)
}

// usesName reports whether a node has a name that is used there.
func usesName(t term) bool {
	switch t.(type) {
	case assign, read, exit, call:
		return true
	}
	return false
}

// binds returns what a node binds in its i-th kid.
func binds(t term, i int) []binding {
	switch t := t.(type) {
	case local:
		if i == 1 {
			return []binding{{name: t.name, sort: variable}}
		}
	case proc:
		if i == 0 {
			return each(t.params, paramBinding)
		}
		return []binding{procBinding(t)}
	case block:
		return []binding{{name: t.name, sort: label}}
	}
	return nil
}

func declBinding(d api.Decl) binding {
	return binding{name: d.Name, sort: declared, args: d.Args, result: d.Result}
}

func procBinding(t proc) binding {
	args := each(t.params, func(p api.Param) api.Type { return p.Type })
	return binding{name: t.name, sort: procedure, args: args, result: t.gives}
}

func paramBinding(p api.Param) binding {
	if p.Type == api.Val {
		return binding{name: p.Name, sort: variable}
	}
	return binding{name: p.Name, sort: procedure, result: p.Type}
}

// isCalled reports whether the name is that of something to call.
func (b binding) isCalled() bool {
	return b.sort == declared || b.sort == procedure
}

// check leaves by ErrName or ErrType if a name is not bound, or not by what fits; the node stays as it is.
func (r *reader) check(t term) term {
	bound, ok := r.find(node(t).Name)
	if !ok {
		panic(api.ErrName)
	}
	if !bound.fits(t) {
		panic(api.ErrType)
	}
	return nil
}

// resolve does what check does, but what a text calls may be a variable that it reads.
func (r *reader) resolve(t term) term {
	if c, ok := t.(call); ok && c.typ == api.Exp && len(c.args) == 0 {
		if bound, ok := r.find(c.name); ok && bound.sort == variable {
			return read{c.name}
		}
	}
	return r.check(t)
}

// fits reports whether a node may use what is bound.
func (b binding) fits(t term) bool {
	switch t := t.(type) {
	case assign, read:
		return b.sort == variable
	case exit:
		return b.sort == label
	case call:
		return b.isCalled() && b.result == t.typ && slices.EqualFunc(b.args, t.args, argFits)
	}
	return false
}

// argFits reports whether a term may be handed over for an argument of a type.
func argFits(typ api.Type, arg term) bool {
	return (typ == api.Com) == (arg.result() == api.Com)
}
