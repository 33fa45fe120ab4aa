package moves_test

import (
	"fmt"
	"maps"

	"doppelganger/api"
	"doppelganger/lang"
)

// player runs a piece against moves of the other side, in another way than the
// package does: on the piece as it is, by chapter 2, from its beginning on for each
// row of moves.
type player struct {
	nodes   []api.Node
	decls   []api.Decl
	options []api.Move // of the other side, behind the question about the piece
	taken   int        // how many of them were made
	made    []api.Move // by the piece
	open    []*int     // variables
	steps   int        // behind the last one of the options that were made
}

// What a run is left by.
type (
	waiting struct{ name api.Decl } // the options are at an end, and a name waits
	ended   struct{}                // the play is over
	endless struct{}                // no move comes any more
	tooLong struct{}                // so many steps that the piece is no good as an example
)

// mark is a run of a block.
type mark struct{ open int }

// meant is what is called: it runs what a call with some arguments stands for.
type meant func(args []int, names map[string]any) int

// refer returns what the piece makes of some moves of the other side: its moves, and what the run is left by.
func refer(p *lang.Piece, options []api.Move) (made []api.Move, left any) {
	r := &player{nodes: p.Nodes(), decls: p.Decls(), options: options}
	defer func() { made, left = r.made, recover() }()
	names := map[string]any{}
	for _, d := range r.decls {
		names[d.Name] = meant(func(args []int, names map[string]any) int { return r.ask(d, args, names) })
	}
	value := r.run(0, names)
	r.make(api.Move{Answer: true, Value: value})
	panic(ended{})
}

func (r *player) make(move api.Move) { r.made = append(r.made, move) }

// option is the next move of the other side.
func (r *player) option(d api.Decl) api.Move {
	if r.taken == len(r.options) {
		panic(waiting{d})
	}
	r.taken++
	r.steps = 0
	return r.options[r.taken-1]
}

// ask begins a call of a declared name.
func (r *player) ask(d api.Decl, args []int, names map[string]any) int {
	value, weight := 0, 1
	for i, typ := range d.Args {
		if typ == api.Val {
			value += weight * r.run(args[i], names)
			weight *= 4
		}
	}
	r.make(api.Move{Name: d.Name, Value: value})
	for {
		option := r.option(d)
		if option.Answer {
			return option.Value
		}
		r.make(api.Move{Name: d.Name, Arg: option.Arg, Answer: true, Value: r.run(args[option.Arg-1], names)})
	}
}

func bind(names map[string]any, name string, what any) map[string]any {
	more := maps.Clone(names)
	more[name] = what
	return more
}

// fresh runs something with one more variable.
func (r *player) fresh(value int, inner func(v *int) int) int {
	r.open = append(r.open, &value)
	result := inner(&value)
	r.open = r.open[:len(r.open)-1]
	return result
}

func (r *player) run(at int, names map[string]any) int {
	if r.steps++; r.steps > 3000 {
		panic(tooLong{})
	}
	n := r.nodes[at]
	switch n.Kind {
	case api.Stop:
		panic(endless{})
	case api.Fault:
		r.make(api.Move{Fault: true})
		panic(ended{})
	case api.Seq, api.Do:
		r.run(n.Kids[0], names)
		return r.run(n.Kids[1], names)
	case api.Assign:
		*names[n.Name].(*int) = r.run(n.Kids[0], names)
	case api.If:
		if r.run(n.Kids[0], names) != 0 {
			return r.run(n.Kids[1], names)
		}
		return r.run(n.Kids[2], names)
	case api.While:
		r.repeat(n, names)
	case api.New:
		return r.fresh(r.run(n.Kids[0], names), func(v *int) int { return r.run(n.Kids[1], bind(names, n.Name, v)) })
	case api.Call:
		return names[n.Name].(meant)(n.Kids, names)
	case api.Proc:
		body := meant(func(args []int, there map[string]any) int { return r.call(n, nil, args, there, names) })
		return r.run(n.Kids[1], bind(names, n.Name, body))
	case api.Num:
		return n.Value
	case api.Read:
		return *names[n.Name].(*int)
	case api.Block:
		r.block(n, names)
	case api.Exit:
		panic(names[n.Name])
	case api.Add, api.Sub, api.Mul, api.Equal, api.Less:
		left := r.run(n.Kids[0], names)
		return compute(n.Kind, left, r.run(n.Kids[1], names))
	}
	return 0
}

func (r *player) repeat(n api.Node, names map[string]any) {
	behind, asked := r.taken, map[string]bool{}
	for {
		if r.taken != behind {
			behind, asked = r.taken, map[string]bool{}
		}
		var values []int
		for _, v := range r.open {
			values = append(values, *v)
		}
		now := fmt.Sprint(values)
		if asked[now] {
			panic(endless{})
		}
		asked[now] = true
		if r.run(n.Kids[0], names) == 0 {
			return
		}
		r.run(n.Kids[1], names)
	}
}

// call runs the arguments by value from that of the place len(values) on, and the body of a procedure then.
func (r *player) call(n api.Node, values, args []int, there, outer map[string]any) int {
	for i := len(values); i < len(args); i++ {
		if n.Params[i].Type == api.Val {
			values = append(values, r.run(args[i], there))
		} else {
			values = append(values, 0)
		}
	}
	return r.body(n, 0, values, args, there, outer)
}

// body runs the body of a procedure with its parameters from a place on.
func (r *player) body(n api.Node, from int, values, args []int, there, inner map[string]any) int {
	if from == len(args) {
		return r.run(n.Kids[0], inner)
	}
	name := n.Params[from].Name
	if n.Params[from].Type == api.Val {
		return r.fresh(values[from], func(v *int) int { return r.body(n, from+1, values, args, there, bind(inner, name, v)) })
	}
	arg := meant(func([]int, map[string]any) int { return r.run(args[from], there) })
	return r.body(n, from+1, values, args, there, bind(inner, name, arg))
}

func (r *player) block(n api.Node, names map[string]any) {
	own := &mark{len(r.open)}
	defer func() {
		if left := recover(); left == any(own) {
			r.open = r.open[:own.open]
		} else if left != nil {
			panic(left)
		}
	}()
	r.run(n.Kids[0], bind(names, n.Name, own))
}

func compute(kind, left, right int) int {
	results := map[int]int{api.Add: left + right, api.Sub: left - right + 4, api.Mul: left * right, api.Equal: 0, api.Less: 0}
	if left == right {
		results[api.Equal] = 1
	}
	if left < right {
		results[api.Less] = 1
	}
	return results[kind] % 4
}
