package rules_test

import (
	"fmt"
	"reflect"
	"slices"
	"testing"

	"doppelganger/api"
	"doppelganger/lang"
	"doppelganger/rules"
)

// tree is a list of nodes, with what stands above them: all that the reference knows of a term.
type tree struct {
	nodes  []api.Node
	parent []int // -1 of the root
	nth    []int // which kid of its parent it is
	end    []int // behind all that hangs on it
}

func newTree(p *lang.Piece) tree {
	nodes := p.Nodes()
	t := tree{nodes, make([]int, len(nodes)), make([]int, len(nodes)), make([]int, len(nodes))}
	t.parent[0] = -1
	for at := len(nodes) - 1; at >= 0; at-- {
		t.end[at] = at + 1
		for i, kid := range nodes[at].Kids {
			t.parent[kid], t.nth[kid] = at, i
			t.end[at] = t.end[kid]
		}
	}
	return t
}

// above returns the names that are bound at a node by those above it, up to a root.
func (t tree) above(at, root int) []string {
	var names []string
	for ; at != root; at = t.parent[at] {
		n := t.nodes[t.parent[at]]
		switch {
		case n.Kind == api.Block, n.Kind == api.New && t.nth[at] == 1, n.Kind == api.Proc && t.nth[at] == 1:
			names = append(names, n.Name)
		case n.Kind == api.Proc:
			for _, param := range n.Params {
				names = append(names, param.Name)
			}
		}
	}
	return names
}

// free returns the names that stand free in the term of a node.
func (t tree) free(root int) []string {
	var names []string
	for at := root; at < t.end[root]; at++ {
		n := t.nodes[at]
		uses := n.Kind == api.Read || n.Kind == api.Assign || n.Kind == api.Call || n.Kind == api.Exit
		if uses && !slices.Contains(t.above(at, root), n.Name) {
			names = append(names, n.Name)
		}
	}
	return names
}

// unknowns returns the places at which the unknowns of a side are called.
func (t tree) unknowns() map[string][]int {
	places := map[string][]int{}
	for at, n := range t.nodes {
		if n.Kind == api.Call && !slices.Contains(t.above(at, 0), n.Name) {
			places[n.Name] = append(places[n.Name], at)
		}
	}
	return places
}

// bare is the nodes of a list from one place to another one; it is told of each how many kids it has, not where they stand.
func (t tree) bare(from, to int) []api.Node {
	var list []api.Node
	for _, n := range t.nodes[from:to] {
		n.Kids = make([]int, len(n.Kids))
		list = append(list, n)
	}
	return list
}

// put returns the bare nodes of a side with the terms of nodes of another tree in the places of unknowns.
func (t tree) put(places map[string][]int, stands map[string]int, other tree) []api.Node {
	var list []api.Node
	for at, n := range t.nodes {
		if slices.Contains(places[n.Name], at) {
			list = append(list, other.bare(stands[n.Name], other.end[stands[n.Name]])...)
		} else {
			list = append(list, t.bare(at, at+1)...)
		}
	}
	return list
}

// numbered returns bare nodes with the places of their kids.
func numbered(list []api.Node) []api.Node {
	next := 0
	var walk func()
	walk = func() {
		at := next
		next++
		for i := range list[at].Kids {
			list[at].Kids[i] = next
			walk()
		}
	}
	walk()
	return list
}

// reference applies rules by what P6.3 and P6.4 say, word by word: it tries all terms for each unknown.
type reference struct {
	from, to tree
	calls    map[string][]int // of the unknowns of from
	others   map[string][]int // of those of to
	p        tree
}

// find returns what the unknowns stand for such that the term of a node is that of the side.
func (r reference) find(node int, names []string, stands map[string]int) bool {
	if len(names) == 0 {
		size := len(r.from.nodes)
		for name, at := range stands {
			size += len(r.calls[name]) * (r.p.end[at] - at - 1)
		}
		if size != r.p.end[node]-node {
			return false
		}
		return fmt.Sprint(r.from.put(r.calls, stands, r.p)) == fmt.Sprint(r.p.bare(node, r.p.end[node]))
	}
	for at := node; at < r.p.end[node]; at++ {
		if r.p.nodes[at].Type != r.from.nodes[r.calls[names[0]][0]].Type {
			continue
		}
		stands[names[0]] = at
		if r.find(node, names[1:], stands) {
			return true
		}
	}
	delete(stands, names[0])
	return false
}

// catches reports whether a name is bound around a call of an unknown that stands free in what it stands for.
func (r reference) catches(name string, at int) bool {
	free := r.p.free(at)
	bound := func(side tree, calls []int) bool {
		for _, call := range calls {
			for _, above := range side.above(call, 0) {
				if slices.Contains(free, above) {
					return true
				}
			}
		}
		return false
	}
	return bound(r.from, r.calls[name]) || bound(r.to, r.others[name])
}

func referenceApply(t *testing.T, left, right *lang.Piece, back bool, p *lang.Piece, node int) (*lang.Piece, api.Errno) {
	t.Helper()
	r := reference{from: newTree(left), to: newTree(right), p: newTree(p)}
	if back {
		r.from, r.to = r.to, r.from
	}
	r.calls, r.others = r.from.unknowns(), r.to.unknowns()
	var names []string
	for name := range r.calls {
		names = append(names, name)
	}
	slices.Sort(names)
	for name := range r.others {
		if !slices.Contains(names, name) {
			return nil, api.ErrApart
		}
	}
	stands := map[string]int{}
	if r.from.nodes[0].Type != r.p.nodes[node].Type || !r.find(node, names, stands) {
		return nil, api.ErrApart
	}
	for name, at := range stands {
		if r.catches(name, at) {
			return nil, api.ErrApart
		}
	}
	list := r.p.bare(0, node)
	list = append(list, r.to.put(r.others, stands, r.p)...)
	list = append(list, r.p.bare(r.p.end[node], len(r.p.nodes))...)
	q, err := lang.Build(p.Decls(), p.Type(), numbered(list))
	if err != api.OK && err != api.ErrFull {
		t.Fatalf("Build: error %d", err)
	}
	return q, err
}

// P6.3, P6.4: at each node of random pieces, either way, Apply comes to what the reference comes to.
func TestApplyAgainstReference(t *testing.T) {
	a := newAuthor(1)
	b := mustBook(t, shown...)
	fit, caught := 0, 0
	for i := range 200 {
		p := a.mixed(t, b, settings[i%len(settings)])
		for range 12 {
			number, back := a.Intn(b.Len()), a.Intn(2) == 0
			left, right, _ := b.Rule(number)
			for node := range p.Nodes() {
				got, err := b.Apply(number, back, p, node)
				want, wanted := referenceApply(t, left, right, back, p, node)
				if err != wanted || !reflect.DeepEqual(got.Nodes(), want.Nodes()) || got.Text() != want.Text() {
					t.Fatalf("Apply of %s%s to node %d of %s: %s, error %d; want %s, error %d", shown[number], direction(back), node, p.Text(), got.Text(), err, want.Text(), wanted)
				}
				if err == api.OK {
					fit++
				} else if isCaught(left, right, back, p, node) {
					caught++
				}
			}
		}
	}
	if fit < 1500 || caught < 300 {
		t.Errorf("too few nodes to tell: %d fit, %d are caught", fit, caught)
	}
}

// isCaught reports whether a term that would fit is caught by a name.
func isCaught(left, right *lang.Piece, back bool, p *lang.Piece, node int) bool {
	r := reference{from: newTree(left), to: newTree(right), p: newTree(p)}
	if back {
		r.from, r.to = r.to, r.from
	}
	r.calls, r.others = r.from.unknowns(), r.to.unknowns()
	var names []string
	for name := range r.calls {
		names = append(names, name)
	}
	return r.find(node, names, map[string]int{})
}

// referenceSimplify applies rules by what P6.5 says.
func referenceSimplify(b *rules.Book, p *lang.Piece) (*lang.Piece, []int) {
	var numbers []int
again:
	for {
		for node := range p.Nodes() {
			for i := range b.Len() {
				q, err := b.Apply(i, false, p, node)
				if err == api.OK && len(q.Nodes()) < len(p.Nodes()) {
					p, numbers = q, append(numbers, i)
					continue again
				}
			}
		}
		return p, numbers
	}
}

// P6.5: random pieces, and books whose rules stand in random order.
func TestSimplifyAgainstReference(t *testing.T) {
	a := newAuthor(2)
	all := mustBook(t, shown...)
	applied, most := 0, 0
	for i := range 300 {
		var some []string
		for _, at := range a.Perm(len(shown))[:1+a.Intn(len(shown))] {
			some = append(some, shown[at])
		}
		b := mustBook(t, some...)
		p := a.mixed(t, all, settings[i%len(settings)])
		want, numbers := referenceSimplify(b, p)
		got, used, err := b.Simplify(p)
		if err != api.OK || got.Text() != want.Text() || !slices.Equal(used, numbers) {
			t.Fatalf("Simplify of %s: %s, error %d, by the rules %v of %v; want %s, %v", p.Text(), got.Text(), err, used, some, want.Text(), numbers)
		}
		applied += len(numbers)
		most = max(most, len(numbers))
	}
	if applied < 300 || most < 4 {
		t.Errorf("too few rules to tell: %d, at most %d", applied, most)
	}
}
