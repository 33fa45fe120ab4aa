package play_test

import (
	"math/rand"
	"strings"

	"doppelganger/api"
)

// maker makes random texts of commands and expressions.
type maker struct {
	*rand.Rand
	names []bound // the innermost last
	left  int     // how many nodes may be made yet
	stops bool    // whether Stop and Fault are made
}

// bound is a name: a variable (sort 'v'), a label ('l'), or what is called ('c').
type bound struct {
	name   string
	sort   byte
	params []api.Type
	result api.Type
}

// pick returns one of the names that are not hidden and fit.
func (m *maker) pick(fits func(b bound) bool) (bound, bool) {
	var found []bound
	hidden := map[string]bool{}
	for i := len(m.names) - 1; i >= 0; i-- {
		b := m.names[i]
		if !hidden[b.name] && fits(b) {
			found = append(found, b)
		}
		hidden[b.name] = true
	}
	if len(found) == 0 {
		return bound{}, false
	}
	return found[m.Intn(len(found))], true
}

func (m *maker) pickSort(sort byte) (bound, bool) {
	return m.pick(func(b bound) bool { return b.sort == sort })
}

// name is a name to be bound; some are bound often, so that they hide each other.
func (m *maker) name() string {
	return string(rune('a' + m.Intn(8)))
}

// within makes a text where more names are bound.
func (m *maker) within(make func() string, more ...bound) string {
	old := len(m.names)
	m.names = append(m.names, more...)
	text := make()
	m.names = m.names[:old]
	return text
}

func (m *maker) block(typ api.Type) string {
	if typ == api.Com {
		return " { " + m.com() + " }"
	}
	return " [ " + m.exp() + " ]"
}

func (m *maker) com() string {
	text := m.step()
	for m.left > 0 && m.Intn(3) > 0 {
		text += "; " + m.step()
	}
	return text
}

func (m *maker) step() string {
	m.left--
	if m.left < 0 {
		return "skip"
	}
	switch m.Intn(6) {
	case 0, 1:
		if v, ok := m.pickSort('v'); ok {
			return v.name + " := " + m.exp()
		}
	case 2:
		return "while " + m.exp() + m.block(api.Com)
	case 3:
		name := m.name()
		return "block " + name + m.within(func() string { return m.block(api.Com) }, bound{name: name, sort: 'l'})
	}
	return m.either(api.Com)
}

func (m *maker) exp() string {
	m.left--
	if m.left < 0 {
		return string(rune('0' + m.Intn(api.Width)))
	}
	switch m.Intn(7) {
	case 0, 1:
		return "(" + m.exp() + []string{" + ", " - ", " * ", " == ", " < "}[m.Intn(5)] + m.exp() + ")"
	case 2, 3:
		if v, ok := m.pickSort('v'); ok {
			return v.name
		}
	case 4:
		return "do" + m.block(api.Com) + m.block(api.Exp)
	}
	return m.either(api.Exp)
}

func (m *maker) either(typ api.Type) string {
	switch m.Intn(10) {
	case 0:
		if word := []string{"stop", "fault"}[m.Intn(2)]; m.stops && m.Intn(4) == 0 {
			return word
		}
	case 1, 2:
		if l, ok := m.pickSort('l'); ok {
			return "exit " + l.name
		}
	case 3, 4:
		name := m.name()
		return "new " + name + " = " + m.exp() + m.within(func() string { return m.block(typ) }, bound{name: name, sort: 'v'})
	case 5, 6:
		return m.proc(typ)
	case 7, 8:
		if p, ok := m.pick(func(b bound) bool { return b.sort == 'c' && b.result == typ }); ok {
			return m.call(p)
		}
	}
	return "if " + m.exp() + m.block(typ) + m.block(typ)
}

func (m *maker) call(p bound) string {
	var args []string
	for _, typ := range p.params {
		if typ == api.Com {
			args = append(args, "{ "+m.com()+" }")
		} else {
			args = append(args, m.exp())
		}
	}
	if len(args) == 0 {
		return p.name
	}
	return p.name + "(" + strings.Join(args, ", ") + ")"
}

func (m *maker) proc(typ api.Type) string {
	own := bound{name: m.name(), sort: 'c', result: api.Type(m.Intn(2))}
	var heads []string
	var inner []bound
	for i := range m.Intn(api.MaxArgs + 1) {
		param := bound{name: string(rune('a' + (m.Intn(2) + 2*i))), sort: 'c', result: api.Type(m.Intn(3))}
		own.params = append(own.params, param.result)
		heads = append(heads, param.name+" : "+[]string{"com", "exp", "val"}[param.result])
		if param.result == api.Val {
			param = bound{name: param.name, sort: 'v'}
		}
		inner = append(inner, param)
	}
	head := "proc " + own.name + "(" + strings.Join(heads, ", ") + ") : " + []string{"com", "exp"}[own.result]
	body := m.within(func() string { return m.block(own.result) }, inner...)
	return head + body + m.within(func() string { return m.block(typ) }, own)
}
