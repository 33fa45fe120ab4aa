package lang

import (
	"slices"

	"doppelganger/api"
)

// hole is the declared name for which a piece is filled in.
const hole = "hole"

// fill returns a context in which the term of a piece stands in the place of each call of hole.
func fill(context, piece *Piece) *Piece {
	at := slices.IndexFunc(context.decls, func(d api.Decl) bool { return d.Name == hole && len(d.Args) == 0 })
	if at < 0 {
		panic(api.ErrNone)
	}
	if context.decls[at].Result != piece.typ {
		panic(api.ErrType)
	}
	r := reader{}
	r.use = func(t term) term {
		if _, ok := t.(call); !ok {
			return nil
		}
		if bound, ok := r.find(node(t).Name); ok && bound.sort == declared && bound.name == hole {
			r.checkFree(piece.decls)
			return piece.root
		}
		return nil
	}
	filled := r.piece(context.decls, context.typ, context.root)
	filled.decls = slices.Delete(filled.decls, at, at+1)
	return filled
}

// checkFree leaves by ErrName or ErrType if one of the declared names of a piece is not bound, or bound otherwise. The declaration of hole binds nothing: it is gone when the context is filled.
func (r *reader) checkFree(decls []api.Decl) {
	for _, d := range decls {
		bound, ok := r.find(d.Name)
		if !ok || bound.sort == declared && bound.name == hole {
			panic(api.ErrName)
		}
		if !bound.isCalled() || bound.result != d.Result || !slices.Equal(bound.args, d.Args) {
			panic(api.ErrType)
		}
	}
}
