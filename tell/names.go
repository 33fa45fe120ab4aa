package tell

import "doppelganger/api"

// names are those that a context binds beside the declared ones.
type names struct {
	digits []string // variables: the number of the round, the lowest digit first
	check  string   // a procedure that begins the next round
	right  string   // its parameter
	answer string   // variables
	turn   string
	done   string              // a label
	param  [api.MaxArgs]string // parameters
}

// newNames returns names that are not declared, and digits enough for the numbers of some rounds.
func newNames(decls []api.Decl, rounds int) names {
	next := byte('a')
	unused := func() string {
		for isDeclared(decls, string(next)) {
			next++
		}
		next++
		return string(next - 1)
	}
	n := names{}
	for numbers := 1; numbers < rounds; numbers *= api.Width {
		n.digits = append(n.digits, unused())
	}
	for _, name := range []*string{&n.check, &n.right, &n.answer, &n.turn, &n.done, &n.param[0], &n.param[1], &n.param[2]} {
		*name = unused()
	}
	return n
}

func isDeclared(decls []api.Decl, name string) bool {
	for _, d := range decls {
		if d.Name == name {
			return true
		}
	}
	return false
}
