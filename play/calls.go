package play

import "doppelganger/api"

// proc binds a procedure, and runs the block.
func (r *runner) proc(n *api.Node, outer *scope) int {
	call := func(args []int, here *scope) int {
		values := r.handOver(n.Params, args, here)
		variables := len(r.values)
		inner := outer
		for i, p := range n.Params {
			if p.Type == api.Val {
				inner = r.variable(p.Name, values[i], inner)
			} else {
				inner = &scope{name: p.Name, outer: inner, call: r.argument(args[i], here)}
			}
		}
		result := r.run(n.Kids[0], inner)
		r.forget(variables)
		return result
	}
	return r.run(n.Kids[1], &scope{name: n.Name, outer: outer, call: call})
}

// handOver runs the arguments by value, and returns their values, each at the place of its parameter.
func (r *runner) handOver(params []api.Param, args []int, here *scope) []int {
	values := make([]int, len(params))
	for i, p := range params {
		if p.Type == api.Val {
			values[i] = r.run(args[i], here)
		}
	}
	return values
}

// argument returns what a call of a parameter runs: the argument, where it stands.
func (r *runner) argument(at int, here *scope) procedure {
	return func([]int, *scope) int {
		return r.run(at, here)
	}
}

// block runs the command of a Block, until it ends or is left.
func (r *runner) block(n *api.Node, outer *scope) {
	own := &visit{variables: len(r.values)}
	defer func() {
		// What leaves an outer Block goes on as it is: to recover it here and to
		// panic again would grow the stack at each Block that it passes.
		if r.leaving != own {
			return
		}
		if left, ok := recover().(*visit); ok {
			r.leaving = nil
			r.forget(left.variables)
		}
	}()
	r.run(n.Kids[0], &scope{name: n.Name, outer: outer, visit: own})
}

// exit leaves a run of a Block.
func (r *runner) exit(v *visit) {
	r.leaving = v
	panic(v)
}
