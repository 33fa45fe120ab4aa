package rules

import (
	"slices"

	"doppelganger/api"
	"doppelganger/lang"
)

// side is a side of a rule.
type side struct {
	root   *term
	around map[string][]string // the unknowns that are called, each with the names that are bound around some call of it
}

// newSide returns the side that a piece is, in which no declared name has arguments.
func newSide(p *lang.Piece) side {
	s := side{termsOf(p)[0], map[string][]string{}}
	var walk func(t *term, bound []string)
	walk = func(t *term, bound []string) {
		if t.Kind == api.Call && !slices.Contains(bound, t.Name) {
			t.unknown = true
			s.around[t.Name] = append(s.around[t.Name], without(bound, s.around[t.Name])...)
		}
		for i, kid := range t.kids {
			walk(kid, slices.Concat(bound, binds(t.Node, i)))
		}
	}
	walk(s.root, nil)
	return s
}

// callsOnlyOf reports whether all unknowns that a side calls are called by another one, too.
func (s side) callsOnlyOf(other side) bool {
	for name := range s.around {
		if _, ok := other.around[name]; !ok {
			return false
		}
	}
	return true
}

// way is a rule in one of its two directions.
type way struct {
	from, to side
}

// newWay returns a rule from left to right.
func newWay(r rule) way {
	return way{newSide(&r.left), newSide(&r.right)}
}

// match returns what the unknowns stand for, and whether a term is that of the one side with terms in their places; which names stand free in these does not matter here.
func (w way) match(t *term) (map[string]*term, bool) {
	if w.from.root.size > t.size {
		return nil, false
	}
	stands := map[string]*term{}
	var walk func(s, t *term) bool
	walk = func(s, t *term) bool {
		fits := false
	look:
		switch {
		case s.unknown:
			if first, ok := stands[s.Name]; s.Type != t.Type || ok && !isSame(first, t) {
				break look
			}
			stands[s.Name] = t
			fits = true
		case isAlike(s, t):
			for i, kid := range s.kids {
				if !walk(kid, t.kids[i]) {
					break look
				}
			}
			fits = true
		}
		return fits
	}
	if !walk(w.from.root, t) {
		return nil, false
	}
	return stands, true
}

// isCaught reports whether a name stands free in what some unknown stands for that is bound around a call of it.
func (w way) isCaught(stands map[string]*term) bool {
	for name, t := range stands {
		if standsFree(w.from.around[name], t) || standsFree(w.to.around[name], t) {
			return true
		}
	}
	return false
}

// other returns the other side's term, in which the unknowns are what they stand for.
func (w way) other(stands map[string]*term) *term {
	return w.to.root.with(func(t *term) *term {
		if t.unknown {
			return stands[t.Name]
		}
		return nil
	})
}
