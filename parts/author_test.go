package parts_test

import (
	"math/rand"
	"slices"
	"strconv"
	"strings"

	"doppelganger/api"
)

// keep is a way in which a module keeps a hidden value.
type keep struct {
	names  []string // the variables
	firsts func(value int) []int
	get    string
	set    func(value string) string
}

// keeps returns the ways to keep a value in variables whose names begin with a letter.
func keeps(x string) []keep {
	one := func(value int) []int { return []int{value} }
	return []keep{
		{[]string{x}, one, x, func(e string) string { return x + " := " + e }},
		{[]string{x}, func(v int) []int { return []int{(v + 1) % api.Width} }, "(" + x + " - 1)", func(e string) string { return x + " := " + e + " + 1" }},
		{[]string{x}, func(v int) []int { return []int{(api.Width - v) % api.Width} }, "(0 - " + x + ")", func(e string) string { return x + " := 0 - " + e }},
		{[]string{x, x + x}, func(v int) []int { return []int{v, v} }, "(if " + x + " == " + x + x + " [ " + x + " ] [ fault ])",
			func(e string) string { return "new t = " + e + " { " + x + " := t; " + x + x + " := t }" }},
		{[]string{x + x, x}, func(v int) []int { return []int{2, v} }, x, func(e string) string { return x + " := " + e + "; " + x + x + " := " + x + x + " + 1" }},
	}
}

// author writes random terms that are right. What two authors write with the same seed is alike, but for how they keep the hidden values.
type author struct {
	*rand.Rand
	kept   []keep
	own    []string // the other variables that are bound
	labels int      // how many labels are bound
	calls  []string // names that are called as commands
	asks   []string // names that are called as expressions
}

// draft writes a module with operations of some types.
func (a *author) draft(hidden []int, types []api.Type) draft {
	var d draft
	for i, value := range hidden {
		d.names = append(d.names, a.kept[i].names...)
		d.firsts = append(d.firsts, a.kept[i].firsts(value)...)
	}
	for i, typ := range types {
		op := draftOperation{name: "op" + string(rune('a'+i)), typ: typeWords[typ]}
		if typ == api.Com {
			op.body = a.command(4)
		} else {
			op.body = a.expression(4)
		}
		d.operations = append(d.operations, op)
	}
	return d
}

var typeWords = []string{"com", "exp"}

// command writes a row of steps of so many levels.
func (a *author) command(levels int) string {
	steps := []string{a.step(levels)}
	for range a.Intn(3) {
		steps = append(steps, a.step(levels))
	}
	return strings.Join(steps, "; ")
}

func (a *author) step(levels int) string {
	if levels <= 0 {
		return []string{"skip", a.assign(0)}[a.Intn(2)]
	}
	switch a.Intn(12) {
	case 0:
		return "if " + a.expression(levels-1) + " { " + a.command(levels-1) + " } { " + a.command(levels-1) + " }"
	case 1:
		return "while " + a.expression(levels-1) + " { " + a.command(levels-1) + " }"
	case 2:
		return a.local(a.expression(levels-1), "{", func() string { return a.command(levels - 1) }, "}")
	case 3:
		a.labels++
		text := "block " + a.label(a.labels-1) + " { " + a.command(levels-1) + " }"
		a.labels--
		return text
	case 4:
		if a.labels > 0 {
			return "if " + a.expression(levels-1) + " { exit " + a.label(a.Intn(a.labels)) + " } { skip }"
		}
	case 5:
		return a.procedure(levels)
	case 6:
		return []string{"skip", "skip", "skip", "fault", "stop"}[a.Intn(5)]
	case 7, 8:
		if len(a.calls) > 0 {
			return a.calls[a.Intn(len(a.calls))]
		}
	}
	return a.assign(levels - 1)
}

// procedure writes one that runs its arguments in a block with a variable of its own.
func (a *author) procedure(levels int) string {
	body := a.local("v", "{", func() string { return "c; " + a.assign(0) + "; c" }, "}")
	return "proc f(c : com, v : val) : com { " + body + " } { f({ " + a.command(levels-1) + " }, " + a.expression(levels-1) + ") }"
}

// local writes a New with a name of its own.
func (a *author) local(value, open string, inner func() string, end string) string {
	name := "u" + strings.Repeat("u", len(a.own))
	a.own = append(a.own, name)
	text := "new " + name + " = " + value + " " + open + " " + inner() + " " + end
	a.own = a.own[:len(a.own)-1]
	return text
}

func (a *author) label(number int) string {
	return "k" + strings.Repeat("k", number)
}

// assign writes what sets a hidden value, or a variable.
func (a *author) assign(levels int) string {
	i := a.Intn(max(1, len(a.kept)+len(a.own)))
	value := a.expression(levels)
	switch {
	case i < len(a.kept):
		return a.kept[i].set("(" + value + ")")
	case i < len(a.kept)+len(a.own):
		return a.own[i-len(a.kept)] + " := " + value
	}
	return "skip"
}

func (a *author) expression(levels int) string {
	if levels <= 0 {
		return a.value()
	}
	switch a.Intn(10) {
	case 0, 1, 2:
		mark := []string{" + ", " - ", " * ", " == ", " < "}[a.Intn(5)]
		left := a.expression(levels - 1)
		return "(" + left + mark + a.expression(levels-1) + ")"
	case 3:
		return "if " + a.expression(levels-1) + " [ " + a.expression(levels-1) + " ] [ " + a.expression(levels-1) + " ]"
	case 4:
		return "do { " + a.command(levels-1) + " } [ " + a.expression(levels-1) + " ]"
	case 5:
		return a.local(a.expression(levels-1), "[", func() string { return a.expression(levels - 1) }, "]")
	}
	return a.value()
}

// value writes a number, a hidden value, a variable, or a question.
func (a *author) value() string {
	i := a.Intn(1 + 2*len(a.kept) + len(a.own) + len(a.asks))
	values := []string{strconv.Itoa(a.Intn(api.Width))}
	for _, k := range a.kept {
		values = append(values, k.get, k.get)
	}
	return slices.Concat(values, a.own, a.asks)[i]
}

// twins writes two modules that are alike, but for how they keep their hidden values.
func twins(seed int64) (first, second draft) {
	choice := rand.New(rand.NewSource(seed))
	hidden := make([]int, 1+choice.Intn(2))
	types := make([]api.Type, 1+choice.Intn(api.MaxArgs))
	for i := range hidden {
		hidden[i] = choice.Intn(api.Width)
	}
	for i := range types {
		types[i] = api.Type(choice.Intn(2))
	}
	types[len(types)-1] = api.Exp
	drafts := make([]draft, 2)
	for i := range drafts {
		a := &author{Rand: rand.New(rand.NewSource(seed))}
		for j := range hidden {
			ways := keeps(string(rune('x' + j)))
			a.kept = append(a.kept, ways[choice.Intn(len(ways))])
		}
		drafts[i] = a.draft(hidden, types)
	}
	return drafts[0], drafts[1]
}

// clientOf writes a program with a hole, in which a client calls operations of some types.
func clientOf(seed int64, types []api.Type) string {
	a := &author{Rand: rand.New(rand.NewSource(seed)), own: []string{"u"}}
	var params []string
	for i, typ := range types {
		name := "op" + string(rune('a'+i))
		params = append(params, name+" : "+typeWords[typ])
		if typ == api.Com {
			a.calls = append(a.calls, name)
		} else {
			a.asks = append(a.asks, name, name)
		}
	}
	body := a.command(4)
	head := "proc client(" + strings.Join(params, ", ") + ") : com { " + body + " }"
	if seed%2 == 0 {
		return "hole : com |- exp : new u = 0 [ " + head + " [ do { hole } [ u ] ] ]"
	}
	return "hole : com |- com : new u = 1 { " + head + " { hole; if u { fault } { hole } } }"
}
