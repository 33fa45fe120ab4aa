package parts

import (
	"slices"

	"doppelganger/api"
	"doppelganger/play"
)

// state is the values of the variables of a module, and 0 for those that it does not have.
type state [api.MaxHidden]int

// first returns the state in which a module begins.
func (m *Module) first() state {
	var s state
	for i, v := range m.variables {
		s[i] = v.first
	}
	return s
}

// values returns the values of the variables in a state.
func (m *Module) values(s state) []int {
	return slices.Clone(s[:len(m.variables)])
}

// outcome is what comes of an operation in a state: whether it ends, and the state then.
type outcome struct {
	ends bool
	then state
}

// run runs an operation in a state. Which expression stands behind it does not
// matter for the steps, and so the runs that read the variables end, too.
func (m *Module) run(op operation, s state) (outcome, api.Errno) {
	ends, _, err := m.valueAfter(op, s, "0")
	if err != api.OK || !ends {
		return outcome{}, err
	}
	o := outcome{ends: true}
	for i, v := range m.variables {
		_, value, err := m.valueAfter(op, s, v.name)
		if err != api.OK {
			return outcome{}, err
		}
		o.then[i] = value
	}
	return o, api.OK
}

// valueAfter reports whether an operation ends in a state, and returns the value of an expression then.
func (m *Module) valueAfter(op operation, s state, expression string) (ends bool, value int, err api.Errno) {
	p, err := m.program(op, s, expression)
	if err != api.OK {
		return false, 0, err
	}
	result, value, _, err := play.Run(p)
	return result == api.Done, value, err
}

// runner runs the operations of a module, once in each state.
type runner struct {
	module *Module
	known  map[state][]outcome
}

func newRunner(m *Module) runner {
	return runner{m, map[state][]outcome{}}
}

// outcomes returns what comes of each operation in a state.
func (r runner) outcomes(s state) ([]outcome, api.Errno) {
	if list, ok := r.known[s]; ok {
		return list, api.OK
	}
	var list []outcome
	for _, op := range r.module.operations {
		o, err := r.module.run(op, s)
		if err != api.OK {
			return nil, err
		}
		list = append(list, o)
	}
	r.known[s] = list
	return list, api.OK
}
