package play_test

import (
	"maps"
	"slices"

	"doppelganger/api"
)

// reference runs programs in another way than the package does: as a machine
// with a row of what is still to be done. It knows no other end than Done,
// Faulted, a Stop, variables that come again, and the limit that it is given.
type reference struct {
	nodes []api.Node
	steps int
	todo  []func(value int)
	live  []*int // the variables that are there

	at    int // the node that is begun next; -1 if a value goes on
	names map[string]any
	value int
	over  *outcome
}

// What a name is bound to: *int of a variable, called of what is called, and mark of a label.
type (
	called func(args []int, names map[string]any)
	mark   struct{ todo, live int }
)

// refer tells what should come of the nodes of a program, if limit steps may be made, and never is told of variables that come again or not.
func refer(nodes []api.Node, limit int, repeats bool) outcome {
	m := &reference{nodes: nodes, names: map[string]any{}}
	for m.over == nil {
		if m.at >= 0 {
			if m.steps == limit {
				return failed(api.ErrFull)
			}
			m.steps++
			m.begin(&m.nodes[m.at], m.names, repeats)
			continue
		}
		if len(m.todo) == 0 {
			return done(m.value, m.steps)
		}
		last := m.todo[len(m.todo)-1]
		m.todo = m.todo[:len(m.todo)-1]
		last(m.value)
	}
	return *m.over
}

func (m *reference) give(value int) { m.at, m.value = -1, value }

func (m *reference) goTo(at int, names map[string]any) { m.at, m.names = at, names }

func (m *reference) then(next func(value int)) { m.todo = append(m.todo, next) }

func with(names map[string]any, name string, bound any) map[string]any {
	more := maps.Clone(names)
	more[name] = bound
	return more
}

// fresh is a variable that is forgotten when what is run next is at an end.
func (m *reference) fresh(value int) *int {
	count := len(m.live)
	m.live = append(m.live, &value)
	m.then(func(value int) {
		m.live = m.live[:count]
		m.give(value)
	})
	return &value
}

func (m *reference) begin(n *api.Node, names map[string]any, repeats bool) {
	switch n.Kind {
	case api.Skip:
		m.give(0)
	case api.Stop:
		m.over = &outcome{}
	case api.Fault:
		m.over = &outcome{result: api.Faulted, steps: m.steps}
	case api.Seq, api.Do:
		m.then(func(int) { m.goTo(n.Kids[1], names) })
		m.goTo(n.Kids[0], names)
	case api.If:
		m.then(func(test int) {
			if test != 0 {
				m.goTo(n.Kids[1], names)
			} else {
				m.goTo(n.Kids[2], names)
			}
		})
		m.goTo(n.Kids[0], names)
	case api.While:
		m.ask(n, names, repeats, nil)
	case api.Num:
		m.give(n.Value)
	case api.Add, api.Sub, api.Mul, api.Equal, api.Less:
		m.then(func(left int) {
			m.then(func(right int) { m.give(operated(n.Kind, left, right)) })
			m.goTo(n.Kids[1], names)
		})
		m.goTo(n.Kids[0], names)
	default:
		m.beginNamed(n, names)
	}
}

func (m *reference) beginNamed(n *api.Node, names map[string]any) {
	switch n.Kind {
	case api.Read:
		m.give(*names[n.Name].(*int))
	case api.Assign:
		m.then(func(value int) {
			*names[n.Name].(*int) = value
			m.give(0)
		})
		m.goTo(n.Kids[0], names)
	case api.New:
		m.then(func(value int) { m.goTo(n.Kids[1], with(names, n.Name, m.fresh(value))) })
		m.goTo(n.Kids[0], names)
	case api.Proc:
		body := called(func(args []int, there map[string]any) {
			m.handOver(n, args, nil, there, names)
		})
		m.goTo(n.Kids[1], with(names, n.Name, body))
	case api.Call:
		names[n.Name].(called)(n.Kids, names)
	case api.Block:
		m.goTo(n.Kids[0], with(names, n.Name, mark{len(m.todo), len(m.live)}))
	case api.Exit:
		label := names[n.Name].(mark)
		m.todo, m.live = m.todo[:label.todo], m.live[:label.live]
		m.give(0)
	}
}

// handOver runs the arguments by value from that of the place len(values) on, and the body of a procedure then.
func (m *reference) handOver(n *api.Node, args, values []int, there, outer map[string]any) {
	i := len(values)
	if i < len(args) && n.Params[i].Type == api.Val {
		m.then(func(value int) { m.handOver(n, args, append(slices.Clone(values), value), there, outer) })
		m.goTo(args[i], there)
		return
	}
	if i < len(args) {
		m.handOver(n, args, append(slices.Clone(values), 0), there, outer)
		return
	}
	inner := outer
	for i, p := range n.Params {
		if p.Type == api.Val {
			inner = with(inner, p.Name, m.fresh(values[i]))
		} else {
			inner = with(inner, p.Name, called(func([]int, map[string]any) { m.goTo(args[i], there) }))
		}
	}
	m.goTo(n.Kids[0], inner)
}

// ask asks the condition of a While, whose variables were as in seen at earlier times.
func (m *reference) ask(n *api.Node, names map[string]any, repeats bool, seen [][]int) {
	var now []int
	for _, v := range m.live {
		now = append(now, *v)
	}
	for _, old := range seen {
		if repeats && slices.Equal(old, now) {
			m.over = &outcome{}
		}
	}
	if repeats {
		seen = append(seen, now)
	}
	m.then(func(test int) {
		if test == 0 {
			m.give(0)
			return
		}
		m.then(func(int) { m.ask(n, names, repeats, seen) })
		m.goTo(n.Kids[1], names)
	})
	m.goTo(n.Kids[0], names)
}

func operated(kind, left, right int) int {
	holds := kind == api.Equal && left == right || kind == api.Less && left < right
	if holds {
		return 1
	}
	switch kind {
	case api.Add:
		return (left + right) & (api.Width - 1)
	case api.Sub:
		return (left - right) & (api.Width - 1)
	case api.Mul:
		return (left * right) & (api.Width - 1)
	}
	return 0
}
