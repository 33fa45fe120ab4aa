package tell_test

import (
	"reflect"
	"slices"
	"strings"
	"testing"

	"doppelganger/api"
	"doppelganger/lang"
	"doppelganger/moves"
	"doppelganger/tell"
)

// context writes a context with a hole of a type, for pieces with some declarations; it has those of them as declarations that are kept, and those of more.
func (a *author) context(t *testing.T, decls []api.Decl, typ api.Type, kept func(api.Decl) bool, more []api.Decl) *lang.Piece {
	t.Helper()
	outer := append([]api.Decl{{Name: "hole", Result: typ}}, more...)
	for _, d := range decls {
		if kept(d) {
			outer = append(outer, d)
		}
	}
	for {
		var heads []string
		a.known, a.left = nil, 60
		for _, d := range outer {
			heads = append(heads, declared(d).head())
			if d.Name != "hole" {
				a.known = append(a.known, declared(d))
			}
		}
		result := api.Type(a.Intn(2))
		term := a.knowing([]known{{name: "u", sort: "variable"}, {name: "w", sort: "variable"}}, func() string {
			return a.bindings(result, decls, kept, known{name: "hole", sort: "called", result: typ})
		})
		text := strings.Join(heads, ", ") + " |- " + typeWords[result] + " : new u = 1" + braced(result, "new w = 2"+braced(result, term))
		c, err := lang.Read(text)
		if err == api.OK && strings.Count(text, "hole") > 1 {
			return c
		}
	}
}

// bindings writes procedures for the declarations that are not kept, around a term with a hole.
func (a *author) bindings(typ api.Type, decls []api.Decl, kept func(api.Decl) bool, hole known) string {
	decls = slices.DeleteFunc(slices.Clone(decls), kept)
	if len(decls) == 0 {
		a.left = 20
		return a.knowing([]known{hole}, func() string {
			if typ == api.Exp {
				first, last := a.term(api.Com), a.term(api.Exp)
				return "do { " + first + " } [ " + last + " + u * 2 ]"
			}
			first := a.term(api.Com)
			return first + "; " + a.term(api.Com)
		})
	}
	a.left = 6 + a.Intn(10)
	own := declared(decls[0])
	head := a.bound(own)
	return head + braced(typ, a.knowing([]known{own}, func() string { return a.bindings(typ, decls[1:], kept, hole) }))
}

func none(api.Decl) bool { return false }

// alike returns a piece that is the same as another one, written otherwise.
func (a *author) alike(t *testing.T, p *lang.Piece) *lang.Piece {
	t.Helper()
	_, term, _ := strings.Cut(p.Text(), "|- "+typeWords[p.Type()]+" : ")
	head := strings.TrimSuffix(p.Text(), term)
	// y and z are bound nowhere in the pieces.
	commands := []string{
		"skip; block z { T }", "block y { T; exit y; fault }", "new z = 2 { T; z := 0 }", "if 0 { stop } { T }", "proc y() : com { T } { y }",
		"proc y(z : com) : com { z } { y({ T }) }", "new z = 1 { while z { z := 0; T } }", "proc y(z : val) : com { if z { T } { fault } } { y(2) }",
	}
	expressions := []string{
		"(T) + 0", "do { skip } [ T ]", "new z = T [ z ]", "new z = 0 [ do { block y { z := T; exit y; z := 1 } } [ z ] ]", "if 2 [ T ] [ fault ]",
		"proc y(z : exp) : exp [ z ] [ y(T) ]", "proc y() : exp [ T ] [ y * 1 ]", "proc y(z : val) : exp [ z ] [ y(T) ]",
	}
	around := [][]string{commands, expressions}[p.Type()]
	return mustRead(t, head+strings.ReplaceAll(around[a.Intn(len(around))], "T", term))
}

// pair returns two pieces that are told to be the same.
func (a *author) pair(t *testing.T, decls []api.Decl, typ api.Type) (p, q *lang.Piece) {
	t.Helper()
	for {
		p, m := a.piece(t, decls, typ, 4+a.Intn(14))
		if len(m.Next) < 4 && a.Intn(8) > 0 {
			continue // too plain
		}
		q := a.alike(t, p)
		if a.Intn(3) > 0 { // one that is the same by chance
			for range 30 {
				if r := a.changed(p); r != p {
					if other, _ := moves.Plays(r); reflect.DeepEqual(m, other) {
						q = r
						break
					}
				}
			}
		}
		if same, err := tell.Same(p, q); !same || err != api.OK {
			t.Fatalf("Same(%s, %s): %t, error %d", p.Text(), q.Text(), same, err)
		}
		return p, q
	}
}

// P5.7, T4: pieces that are the same come to the same in every program.
func TestSameInPrograms(t *testing.T) {
	a := newAuthor(19)
	count := map[outcome]int{}
	runs, differ := 0, 0
	for i := range 700 {
		s := settings[i%len(settings)]
		p, q := a.pair(t, s.decls, s.typ)
		r := a.changed(p)
		for range 8 {
			c := a.context(t, s.decls, s.typ, none, nil)
			first, short := filled(t, c, p)
			second, shorter := filled(t, c, q)
			if !short || !shorter {
				continue
			}
			if first != second {
				t.Fatalf("%s: %v with %s, but %v with %s", c.Text(), first, p.Text(), second, q.Text())
			}
			runs++
			count[outcome{result: first.result}]++
			if third, ok := filled(t, c, r); ok && third != first {
				differ++
			}
		}
	}
	if runs < 4000 || count[never] < 300 || count[faulted] < 300 || count[outcome{result: api.Done}] < 300 || differ < 300 {
		t.Errorf("too few programs to tell: %d, %v, %d that tell pieces apart", runs, count, differ)
	}
}

// P5.7, T4: the pairs that are written by hand.
func TestHandwrittenPairsInPrograms(t *testing.T) {
	a := newAuthor(23)
	for _, texts := range samePairs {
		p, q := mustRead(t, texts[0]), mustRead(t, texts[1])
		for range 40 {
			c := a.context(t, p.Decls(), p.Type(), none, nil)
			first, short := filled(t, c, p)
			second, shorter := filled(t, c, q)
			if short && shorter && first != second {
				t.Errorf("%s: %v with %s, but %v with %s", c.Text(), first, texts[0], second, texts[1])
			}
		}
	}
}

// P5.8: pieces that are the same stay so in every context, with and without declarations.
func TestSameInContexts(t *testing.T) {
	a := newAuthor(29)
	extra := []api.Decl{{Name: "e", Result: api.Exp}, {Name: "h", Args: []api.Type{api.Com}}}
	compared, great := 0, 0
	for i := range 1000 {
		s := settings[i%len(settings)]
		p, q := a.pair(t, s.decls, s.typ)
		var kept []string
		more := extra[:a.Intn(3)]
		for _, d := range s.decls {
			if 1+len(more)+len(kept) < api.MaxDecls && a.Intn(2) == 0 {
				kept = append(kept, d.Name)
			}
		}
		c := a.context(t, s.decls, s.typ, func(d api.Decl) bool { return slices.Contains(kept, d.Name) }, more)
		first, firstErr := lang.Fill(c, p)
		second, secondErr := lang.Fill(c, q)
		if firstErr != api.OK && firstErr != api.ErrFull || secondErr != api.OK && secondErr != api.ErrFull {
			t.Fatalf("Fill(%s, %s): errors %d, %d", c.Text(), p.Text(), firstErr, secondErr)
		}
		if firstErr != api.OK || secondErr != api.OK {
			continue
		}
		switch same, err := tell.Same(first, second); {
		case err == api.OK && !same:
			t.Fatalf("%s with %s and with %s is told apart", c.Text(), p.Text(), q.Text())
		case err == api.OK:
			compared++
			if m, _ := moves.Plays(first); len(m.Next) > 5 {
				great++
			}
		case err != api.ErrFull:
			t.Fatalf("Same(%s, %s): error %d", first.Text(), second.Text(), err)
		}
	}
	if compared < 800 || great < 200 {
		t.Errorf("too few contexts to tell: %d, %d of them great", compared, great)
	}
}
