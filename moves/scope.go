package moves

// scope is what names stand for at a node of a piece: a name, ahead of all that
// is bound outside of it. No scope is ever changed, so that of an argument can be
// kept until its parameter is called.
type scope struct {
	name  string
	means *meaning
	outer *scope
}

// meaning is what a name stands for.
type meaning struct {
	slot   int // of a variable: where its value is on the stack
	label      // of a label
	called     // of what is called
}

// label is a Block of the unfolded term, with what it stands in.
type label struct {
	block  int
	inside inside
}

// called is what stands in the place of calls.
type called struct {
	// put puts the term of a call with some arguments into a spot.
	put func(args []*meaning, s spot)

	// core returns the parameter that alone is left of a call, nil if nodes are
	// left of it; ofArg tells the same of the i-th argument. There is no core if
	// nodes are left of all calls.
	core func(ofArg func(i int) *meaning) *meaning
}

func (s *scope) with(name string, means *meaning) *scope {
	return &scope{name: name, means: means, outer: s}
}

// find returns what a name stands for.
func (s *scope) find(name string) *meaning {
	for s.name != name {
		s = s.outer
	}
	return s.means
}

// parameter returns the meaning of a parameter by name, for which put puts the argument into a spot.
func parameter(put func(s spot)) *meaning {
	m := &meaning{}
	m.put = func(_ []*meaning, s spot) { put(s) }
	m.core = func(func(int) *meaning) *meaning { return m }
	return m
}
