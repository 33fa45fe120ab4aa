package tell

import (
	"slices"

	"doppelganger/api"
)

// program returns the term of the context.
func (m *maker) program() *term {
	t := m.answered(call(hole, m.typ), m.given)
	for _, c := range m.called {
		t = procedure(c.Name, m.params(c), m.body(c), t)
	}
	right := []api.Param{{Name: m.right, Type: api.Val}}
	t = procedure(m.check, right, choice(read(m.right), m.advance(), stop(api.Com)), t)
	for _, digit := range m.digits {
		t = local(digit, number(0), t)
	}
	return t
}

// advance returns a command that begins the next round, or comes to the fault behind the last one.
func (m *maker) advance() *term {
	if last := m.lookUp(m.last); last != nil {
		return choice(last, fault(), count(m.digits))
	}
	return count(m.digits)
}

// count returns a command that adds 1 to a number.
func count(digits []string) *term {
	if len(digits) == 0 {
		return skip()
	}
	low := digits[0]
	more := assign(low, operate(api.Add, read(low), number(1)))
	if len(digits) == 1 {
		return more
	}
	return steps(more, choice(read(low), skip(), count(digits[1:])))
}

// lookUp returns an expression that is what a table has for the round under way, 0 if it has nothing for it; nil if the table has nothing at all.
func (m *maker) lookUp(t table) *term {
	return lookUp(t, m.digits)
}

func lookUp(t table, digits []string) *term {
	if len(digits) == 0 {
		if t[0] == nil {
			return nil
		}
		return t[0]()
	}
	top := len(digits) - 1
	size := 1
	for range top {
		size *= api.Width
	}
	parts := slices.Collect(slices.Chunk(t, size))
	var found *term
	for value, part := range slices.Backward(parts) {
		here := lookUp(part, digits[:top])
		if here == nil {
			continue
		}
		if found == nil {
			found = number(0)
		}
		found = choice(isValue(digits[top], value), here, found)
	}
	return found
}

// verdict returns a command that goes on with the next round if an expression is true, and otherwise never ends; it never ends if there is no expression.
func (m *maker) verdict(right *term) *term {
	if right == nil {
		return stop(api.Com)
	}
	return call(m.check, api.Com, right)
}

// answered returns a command that runs something of the piece, and goes on if the answer is the right one.
func (m *maker) answered(run *term, given table) *term {
	verdict := m.verdict(m.lookUp(given))
	if run.Type == api.Com {
		return steps(run, verdict)
	}
	return local(m.answer, run, verdict)
}

// isAnswer returns whether the answer of the piece is a value.
func (m *maker) isAnswer(typ api.Type, value int) *term {
	if typ == api.Com {
		return number(1)
	}
	return isValue(m.answer, value)
}

// haveValues returns whether the arguments by value are those of a question.
func (m *maker) haveValues(args []api.Type, values int) *term {
	var all *term
	for i, typ := range args {
		if typ != api.Val {
			continue
		}
		one := isValue(m.param[i], values%api.Width)
		values /= api.Width
		if all == nil {
			all = one
		} else {
			all = operate(api.Mul, all, one)
		}
	}
	if all == nil {
		return number(1)
	}
	return all
}

// params returns the parameters of what is called.
func (m *maker) params(c *called) []api.Param {
	var list []api.Param
	for i, typ := range c.Args {
		list = append(list, api.Param{Name: m.param[i], Type: typ})
	}
	return list
}

// body returns what is run when a declared name is called.
func (m *maker) body(c *called) *term {
	right := m.lookUp(c.right)
	if right == nil {
		return stop(c.Result)
	}
	command := m.verdict(right)
	if turns := m.lookUp(c.turns); turns != nil {
		command = steps(command, m.turns(c, turns))
	}
	if c.Result == api.Com {
		return command
	}
	if reply := m.lookUp(c.replies); reply != nil {
		return do(command, reply)
	}
	return do(command, number(0))
}

// turns returns a command that asks about arguments as long as turns has the number of one.
func (m *maker) turns(c *called, turns *term) *term {
	ask := exit(m.done)
	for i, typ := range slices.Backward(c.Args) {
		if c.args[i].asked {
			run := m.answered(call(m.param[i], typ), c.args[i].given)
			ask = choice(isValue(m.turn, i+1), run, ask)
		}
	}
	return labelled(m.done, while(number(1), local(m.turn, turns, ask)))
}
