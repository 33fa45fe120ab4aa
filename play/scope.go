package play

// scope is what is bound at a place: a name, ahead of all that is bound
// outside of it. No scope is ever changed, so what is bound where an argument
// or a procedure stands can be kept as it was.
type scope struct {
	name  string
	outer *scope

	place int       // of a variable: where its value is kept
	call  procedure // of a procedure, or of a parameter by name
	visit *visit    // of a label
}

// procedure runs what a name is bound to, for a call with some arguments that
// stand where here is bound.
type procedure func(args []int, here *scope) int

// visit is a run of a Block.
type visit struct {
	variables int // how many there were when it was begun
}

// find returns the innermost binding of a name.
func (s *scope) find(name string) *scope {
	for s.name != name {
		s = s.outer
	}
	return s
}
