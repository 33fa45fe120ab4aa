package play

import "doppelganger/api"

// runner is a program that is run.
type runner struct {
	nodes   []api.Node
	steps   int
	values  []byte // of all variables that are there, the newest last
	leaving *visit // the run of a Block that an Exit leaves
}

// run begins the node at a place, and returns its value, 0 of a command.
func (r *runner) run(at int, here *scope) int {
	r.step()
	n := &r.nodes[at]
	switch n.Kind {
	case api.Stop:
		panic(end{result: api.Never})
	case api.Fault:
		panic(end{result: api.Faulted, steps: r.steps})
	case api.Seq, api.Do:
		r.run(n.Kids[0], here)
		return r.run(n.Kids[1], here)
	case api.If:
		return r.choose(n, here)
	case api.While:
		r.repeat(n, here)
	case api.Assign:
		r.assign(n, here)
	case api.New:
		return r.local(n, here)
	case api.Proc:
		return r.proc(n, here)
	case api.Call:
		return here.find(n.Name).call(n.Kids, here)
	case api.Num:
		return n.Value
	case api.Read:
		return int(r.values[here.find(n.Name).place])
	case api.Add, api.Sub, api.Mul, api.Equal, api.Less:
		return r.operate(n, here)
	case api.Block:
		r.block(n, here)
	case api.Exit:
		r.exit(here.find(n.Name).visit)
	}
	return 0
}

// step counts a step that is about to be made.
func (r *runner) step() {
	if r.steps == api.MaxSteps {
		panic(end{err: api.ErrFull})
	}
	r.steps++
}

func (r *runner) choose(n *api.Node, here *scope) int {
	if r.run(n.Kids[0], here) != 0 {
		return r.run(n.Kids[1], here)
	}
	return r.run(n.Kids[2], here)
}

// repeat runs a While. If all variables that are there are as they were at an
// earlier time, all that follows is as it was, too: also those that this place
// does not see count, as its arguments may see them.
func (r *runner) repeat(n *api.Node, here *scope) {
	asked := map[string]bool{}
	for {
		now := string(r.values)
		if asked[now] {
			panic(end{result: api.Never})
		}
		asked[now] = true
		if r.run(n.Kids[0], here) == 0 {
			return
		}
		r.run(n.Kids[1], here)
	}
}

func (r *runner) assign(n *api.Node, here *scope) {
	value := r.run(n.Kids[0], here)
	r.values[here.find(n.Name).place] = byte(value)
}

func (r *runner) local(n *api.Node, here *scope) int {
	value := r.run(n.Kids[0], here)
	inner := r.variable(n.Name, value, here)
	result := r.run(n.Kids[1], inner)
	r.forget(inner.place)
	return result
}

// variable binds a name to a new variable.
func (r *runner) variable(name string, value int, outer *scope) *scope {
	r.values = append(r.values, byte(value))
	return &scope{name: name, outer: outer, place: len(r.values) - 1}
}

// forget forgets all variables but the first ones.
func (r *runner) forget(count int) {
	r.values = r.values[:count]
}

func (r *runner) operate(n *api.Node, here *scope) int {
	left := r.run(n.Kids[0], here)
	right := r.run(n.Kids[1], here)
	switch n.Kind {
	case api.Add:
		return (left + right) % api.Width
	case api.Sub:
		return (left - right + api.Width) % api.Width
	case api.Mul:
		return left * right % api.Width
	case api.Equal:
		return truth(left == right)
	}
	return truth(left < right)
}

func truth(holds bool) int {
	if holds {
		return 1
	}
	return 0
}
