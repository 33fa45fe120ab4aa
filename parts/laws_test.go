package parts_test

import (
	"slices"
	"strings"
	"testing"

	"doppelganger/api"
	"doppelganger/lang"
	"doppelganger/parts"
	"doppelganger/play"
	"doppelganger/tell"
)

// comesTo is what comes of a program.
type comesTo struct {
	result api.Result
	value  int
}

// run fills a module into a program with a hole, and tells what comes of it, unless a limit is exceeded.
func run(t *testing.T, context *lang.Piece, m *parts.Module) (comesTo, bool) {
	t.Helper()
	program, err := lang.Fill(context, pieceOf(t, m))
	if err == api.ErrFull {
		return comesTo{}, false
	}
	if err != api.OK {
		t.Fatalf("Fill of %s with %s: error %d", context.Text(), m.Text(), err)
	}
	result, value, _, err := play.Run(program)
	return comesTo{result, value}, err == api.OK
}

func typesOf(m *parts.Module) []api.Type {
	var types []api.Type
	for _, op := range m.Operations() {
		types = append(types, op.Result)
	}
	return types
}

// behind runs some calls of a module, one after another, from the first values on; it tells the state then, and whether all of them come to an end.
func (d draft) behind(t *testing.T, row []int) (state []int, ends, full bool) {
	t.Helper()
	calls := []string{"skip"}
	for _, i := range row {
		body := d.operations[i].body
		if d.operations[i].typ == "exp" {
			body = "if " + body + " { skip } { skip }"
		}
		calls = append(calls, body)
	}
	ahead, after := "", ""
	for i, name := range d.names {
		ahead += "new " + name + " = " + string(rune('0'+d.firsts[i])) + " [ "
		after += " ]"
	}
	for _, name := range append([]string{"0"}, d.names...) {
		p, err := lang.Read("|- exp : " + ahead + "do { " + strings.Join(calls, "; ") + " } [ " + name + " ]" + after)
		if err != api.OK {
			return nil, false, true
		}
		result, value, _, err := play.Run(p)
		if err != api.OK {
			return nil, false, true
		}
		if result != api.Done {
			return nil, false, false
		}
		state = append(state, value)
	}
	return state[1:], true, false
}

// referRelation tells the pairs of states behind the shortest rows of calls, each of which is run from the first values on.
func referRelation(t *testing.T, first, second draft) (pairs [][2][]int, full bool) {
	t.Helper()
	rows := [][]int{nil}
	met := map[string]bool{}
	for at := 0; at < len(rows); at++ {
		one, ends, full := first.behind(t, rows[at])
		other, endsToo, fullToo := second.behind(t, rows[at])
		if full || fullToo {
			return nil, true
		}
		if ends != endsToo {
			t.Fatalf("%s ends behind %v: %t, but %s: %t", first.text(), rows[at], ends, second.text(), endsToo)
		}
		if !ends || met[key(one, other)] {
			continue
		}
		met[key(one, other)] = true
		pairs = append(pairs, [2][]int{one, other})
		for i := range first.operations {
			rows = append(rows, append(slices.Clone(rows[at]), i))
		}
	}
	slices.SortFunc(pairs, func(p, q [2][]int) int { return strings.Compare(key(p[0], p[1]), key(q[0], q[1])) })
	return pairs, false
}

func key(first, second []int) string {
	text := ""
	for _, v := range slices.Concat(first, []int{9}, second) {
		text += string(rune('0' + v))
	}
	return text
}

// P7.4 to P7.6: random modules that keep the same values in other ways.
func TestTwins(t *testing.T) {
	compared, many := 0, 0
	for seed := range int64(600) {
		first, second := twins(seed)
		m, err := parts.Read(first.text())
		n, other := parts.Read(second.text())
		if err == api.ErrFull || other == api.ErrFull {
			continue
		}
		if err != api.OK || other != api.OK {
			t.Fatalf("Read of %s: error %d; of %s: error %d", first.text(), err, second.text(), other)
		}
		same, err := parts.Same(m, n)
		if err == api.ErrFull {
			continue
		}
		if err != api.OK || !same {
			t.Fatalf("Same of %s, and of %s: %t, error %d", first.text(), second.text(), same, err)
		}
		got, err := parts.Relation(m, n)
		want, full := referRelation(t, first, second)
		if err == api.ErrFull || full {
			continue
		}
		if err != api.OK || !isSameRelation(got, want) {
			t.Fatalf("Relation of %s, and of %s: %v, error %d; want %v", first.text(), second.text(), got, err, want)
		}
		compared++
		if len(want) > 3 {
			many++
		}
	}
	if compared < 300 || many < 50 {
		t.Errorf("too few modules to tell: %d, with many states %d", compared, many)
	}
}

// P7.4, T8: clients of modules that are the same come to the same result.
func TestClientsOfTwins(t *testing.T) {
	met := map[comesTo]int{}
	for seed := range int64(300) {
		first, second := twins(seed)
		m, err := parts.Read(first.text())
		n, other := parts.Read(second.text())
		if err != api.OK || other != api.OK {
			continue
		}
		for i := range int64(40) {
			text := clientOf(40*seed+i, typesOf(m))
			context, err := lang.Read(text)
			if err == api.ErrFull {
				continue
			}
			if err != api.OK {
				t.Fatalf("no client: %s: error %d", text, err)
			}
			one, ok := run(t, context, m)
			two, too := run(t, context, n)
			if ok && too && one != two {
				t.Fatalf("%s comes to %v with %s, and to %v with %s", text, one, m.Text(), two, n.Text())
			}
			if ok && too {
				met[one]++
			}
		}
	}
	for _, c := range []comesTo{{api.Done, 0}, {api.Done, 1}, {api.Done, 2}, {api.Done, 3}, {api.Faulted, 0}, {api.Never, 0}} {
		if met[c] < 100 {
			t.Errorf("too few programs come to %v: %v", c, met)
		}
	}
}

// P7.4, T8: modules that are told to be the same come to the same with all clients; of those that are apart, one client does not.
func TestClientsOfModules(t *testing.T) {
	var modules []*parts.Module
	for seed := range int64(80) {
		first, _ := twins(seed)
		if m, err := parts.Read(first.text()); err == api.OK {
			modules = append(modules, m)
		}
	}
	for _, text := range []string{up, down, square, "new n = 0; go: com { n := n + 1 }; get: exp [ n == n ]", "go: com { skip }; get: exp [ 1 ]", "new n = 3; get: exp [ n ]", "get: exp [ 3 ]", "new n = 0; get: exp [ n ]", "get: exp [ 0 ]"} {
		modules = append(modules, mustRead(t, text))
	}
	same, apart := 0, 0
	for i, m := range modules {
		for j, n := range modules {
			if i == j || !slices.Equal(typesOf(m), typesOf(n)) {
				continue
			}
			is, err := parts.Same(m, n)
			switch {
			case err == api.ErrFull:
			case is:
				same++
				wantNoDifference(t, m, n)
			default:
				apart++
				wantDifference(t, m, n)
			}
		}
	}
	if same < 30 || apart < 300 {
		t.Errorf("too few modules to tell: %d pairs are the same, %d are apart", same, apart)
	}
}

func wantNoDifference(t *testing.T, m, n *parts.Module) {
	t.Helper()
	for seed := range int64(40) {
		context, err := lang.Read(clientOf(seed, typesOf(m)))
		if err != api.OK {
			continue
		}
		one, ok := run(t, context, m)
		two, too := run(t, context, n)
		if ok && too && one != two {
			t.Fatalf("%s comes to %v with %s, and to %v with %s", context.Text(), one, m.Text(), two, n.Text())
		}
	}
}

func wantDifference(t *testing.T, m, n *parts.Module) {
	t.Helper()
	context, err := tell.Witness(pieceOf(t, m), pieceOf(t, n))
	if err == api.ErrFull {
		return
	}
	if err != api.OK {
		t.Fatalf("Witness for %s, and for %s: error %d", m.Text(), n.Text(), err)
	}
	one, ok := run(t, context, m)
	two, too := run(t, context, n)
	if ok && too && one == two {
		t.Fatalf("%s comes to %v with %s, and with %s", context.Text(), one, m.Text(), n.Text())
	}
}
