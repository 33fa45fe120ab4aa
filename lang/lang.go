// Package lang is layer 1, the language: pieces of programs, their texts and types, and contexts with holes. See shared/doc/01-lang.md.
package lang

import (
	"slices"
	"strings"

	"doppelganger/api"
)

// Piece is a term with its type and the declarations of its free names.
type Piece struct {
	decls []api.Decl // in the order of names
	typ   api.Type
	root  term // nil in the zero value, which is no piece
}

// Read returns the piece of a text.
func Read(text string) (*Piece, api.Errno) {
	return attempt(func() *Piece {
		p := parse(text)
		r := reader{}
		r.use = r.resolve
		return r.piece(p.decls, p.typ, p.root)
	})
}

// Build returns the piece of some nodes.
func Build(decls []api.Decl, typ api.Type, nodes []api.Node) (*Piece, api.Errno) {
	return attempt(func() *Piece {
		if !declarable(decls) {
			panic(api.ErrArg)
		}
		root := assemble(nodes)
		if root.result() != typ {
			panic(api.ErrArg)
		}
		r := reader{}
		r.use = r.check
		return r.piece(decls, typ, root)
	})
}

// Text returns the plain text of a piece.
func (p *Piece) Text() string {
	if p.isNone() {
		return ""
	}
	head := "|- " + typeWord(p.typ) + " : "
	if len(p.decls) > 0 {
		head = strings.Join(each(p.decls, declText), ", ") + " " + head
	}
	return head + text(p.root)
}

// Decls returns the declarations, in the order of names.
func (p *Piece) Decls() []api.Decl {
	if p.isNone() {
		return nil
	}
	return copyDecls(p.decls)
}

// Type returns the type.
func (p *Piece) Type() api.Type {
	if p.isNone() {
		return api.Com
	}
	return p.typ
}

// Nodes returns the nodes of the term.
func (p *Piece) Nodes() []api.Node {
	if p.isNone() {
		return nil
	}
	return flatten(nil, p.root)
}

// Fill returns a context in which a piece stands in the place of each call of hole.
func Fill(context, piece *Piece) (*Piece, api.Errno) {
	return attempt(func() *Piece {
		if context.isNone() || piece.isNone() {
			panic(api.ErrArg)
		}
		return fill(context, piece)
	})
}

// isNone reports whether p is nil or the zero value.
func (p *Piece) isNone() bool {
	return p == nil || p.root == nil
}

// attempt returns what work returns, or the error that it leaves by.
func attempt(work func() *Piece) (p *Piece, err api.Errno) {
	defer func() {
		if left := recover(); left != nil {
			p, err = nil, reason(left)
		}
	}()
	return work(), api.OK
}

// reason returns the error that was left by.
func reason(left any) api.Errno {
	if err, ok := left.(api.Errno); ok {
		return err
	}
	return api.ErrArg
}

// copyDecls returns new memory with the same declarations, in the order of names.
func copyDecls(decls []api.Decl) []api.Decl {
	out := each(decls, func(d api.Decl) api.Decl {
		d.Args = slices.Clone(d.Args)
		return d
	})
	slices.SortFunc(out, func(a, b api.Decl) int { return strings.Compare(a.Name, b.Name) })
	return out
}

// each returns what change makes of each item.
func each[A, B any](items []A, change func(A) B) []B {
	out := make([]B, 0, len(items))
	for _, item := range items {
		out = append(out, change(item))
	}
	return out
}
