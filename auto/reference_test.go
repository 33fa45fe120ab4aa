package auto_test

import (
	"cmp"
	"fmt"
	"iter"
	"math/rand"
	"slices"

	"doppelganger/api"
)

// What results should be, found in the plainest way: by all words of a length, or
// by all pairs and sets, one after another. It is for small machines alone.

// words yields all words of a length, in the order of letters.
func words(letters, length int) iter.Seq[[]int] {
	return func(yield func([]int) bool) {
		word := make([]int, length)
		for letters > 0 || length == 0 {
			if !yield(word) {
				return
			}
			at := length - 1
			for at >= 0 && word[at] == letters-1 {
				word[at] = 0
				at--
			}
			if at < 0 {
				return
			}
			word[at]++
		}
	}
}

// leads returns the state to which a word leads from a state, -1 for nowhere.
func leads(m api.Machine, state int, word []int) int {
	for _, letter := range word {
		if state < 0 {
			return -1
		}
		state = m.Next[state][letter]
	}
	return state
}

func accepting(m api.Machine, state int) bool {
	return state >= 0 && m.End[state]
}

// meanings returns what is accepted from each state, of all words that can tell states apart.
func meanings(m api.Machine) []string {
	lists := make([]string, len(m.Next))
	for state := range lists {
		for length := range len(m.Next) + 1 {
			for word := range words(m.Letters, length) {
				if accepting(m, leads(m, state, word)) {
					lists[state] += fmt.Sprint(word)
				}
			}
		}
	}
	return lists
}

// leastOf is what Least should return.
func leastOf(m api.Machine) api.Machine {
	meaning := meanings(m)
	numbers, least := map[string]int{}, none(m.Letters)
	var found []int
	number := func(state int) int {
		if state < 0 || meaning[state] == "" {
			return -1
		}
		n, known := numbers[meaning[state]]
		if !known {
			n = len(found)
			numbers[meaning[state]] = n
			found = append(found, state)
		}
		return n
	}
	least.Start = number(m.Start)
	for i := 0; i < len(found); i++ {
		row := []int{}
		for letter := range m.Letters {
			row = append(row, number(m.Next[found[i]][letter]))
		}
		least.Next = append(least.Next, row)
		least.End = append(least.End, m.End[found[i]])
	}
	return least
}

// differenceOf is what Differ should return; ok is false if there is no difference.
func differenceOf(a, b api.Machine) (word []int, first, ok bool) {
	for length := range len(a.Next) + len(b.Next) + 1 {
		for word := range words(a.Letters, length) {
			one, other := accepting(a, leads(a, a.Start, word)), accepting(b, leads(b, b.Start, word))
			if one != other {
				return slices.Clone(word), one, true
			}
		}
	}
	return nil, false, false
}

// after returns the pair to which a letter leads.
func after(a, b api.Machine, p api.Pair, letter int) api.Pair {
	word := []int{letter}
	return api.Pair{A: leads(a, p.A, word), B: leads(b, p.B, word)}
}

// relationOf is what Relate should return for machines that accept the same words.
func relationOf(a, b api.Machine) []api.Pair {
	start := api.Pair{A: a.Start, B: b.Start}
	seen := map[api.Pair]bool{start: true}
	todo := []api.Pair{start}
	for i := 0; i < len(todo); i++ {
		for letter := range a.Letters {
			p := after(a, b, todo[i], letter)
			if !seen[p] {
				seen[p] = true
				todo = append(todo, p)
			}
		}
	}
	return relation(todo)
}

// relation returns pairs in the form of a relation.
func relation(pairs []api.Pair) []api.Pair {
	pairs = slices.DeleteFunc(slices.Clone(pairs), func(p api.Pair) bool { return p.A == -1 && p.B == -1 })
	slices.SortFunc(pairs, func(p, q api.Pair) int {
		if p.A != q.A {
			return cmp.Compare(p.A, q.A)
		}
		return cmp.Compare(p.B, q.B)
	})
	return slices.Compact(pairs)
}

// shown reports whether pairs in the form of a relation show that both machines accept the same words.
func shown(a, b api.Machine, pairs []api.Pair) bool {
	there := func(p api.Pair) bool {
		return p.A == -1 && p.B == -1 || slices.Contains(pairs, p)
	}
	if !there(api.Pair{A: a.Start, B: b.Start}) {
		return false
	}
	for _, p := range pairs {
		if accepting(a, p.A) != accepting(b, p.B) {
			return false
		}
		for letter := range a.Letters {
			if !there(after(a, b, p, letter)) {
				return false
			}
		}
	}
	return true
}

// hiddenOf is a machine that accepts what Hide's result should accept: its states are sets of states of m.
func hiddenOf(m api.Machine, hidden []bool) api.Machine {
	var sets [][]int
	closed := func(states []int) []int {
		for i := 0; i < len(states); i++ {
			for letter, to := range m.Next[states[i]] {
				if hidden[letter] && to >= 0 && !slices.Contains(states, to) {
					states = append(states, to)
				}
			}
		}
		slices.Sort(states)
		return states
	}
	number := func(set []int) int {
		at := slices.IndexFunc(sets, func(other []int) bool { return slices.Equal(set, other) })
		if at < 0 && len(set) > 0 {
			at = len(sets)
			sets = append(sets, set)
		}
		return at
	}
	result := none(m.Letters)
	if m.Start >= 0 {
		result.Start = number(closed([]int{m.Start}))
	}
	for i := 0; i < len(sets); i++ {
		row := make([]int, m.Letters)
		for letter := range row {
			var to []int
			for _, state := range sets[i] {
				next := m.Next[state][letter]
				if !hidden[letter] && next >= 0 && !slices.Contains(to, next) {
					to = append(to, next)
				}
			}
			row[letter] = number(closed(to))
		}
		result.Next = append(result.Next, row)
		result.End = append(result.End, slices.ContainsFunc(sets[i], func(state int) bool { return m.End[state] }))
	}
	return result
}

// productOf is a machine that goes along in two machines, nowhere, too, and accepts as decide tells: its states are all pairs.
func productOf(a, b api.Machine, decide func(one, other bool) bool) api.Machine {
	width := len(b.Next) + 1
	place := func(p api.Pair) int { return (p.A+1)*width + p.B + 1 }
	pair := func(state int) api.Pair { return api.Pair{A: state/width - 1, B: state%width - 1} }
	m := made((len(a.Next)+1)*width, a.Letters, func(state, letter int) int {
		return place(after(a, b, pair(state), letter))
	}, func(state int) bool {
		return decide(accepting(a, pair(state).A), accepting(b, pair(state).B))
	})
	m.Start = place(api.Pair{A: a.Start, B: b.Start})
	return m
}

// alike reports whether two machines accept the same words: in no pair that is found does one accept alone.
func alike(a, b api.Machine) bool {
	return !slices.ContainsFunc(relationOf(a, b), func(p api.Pair) bool {
		return accepting(a, p.A) != accepting(b, p.B)
	})
}

// random returns a machine of at most some states; ends and next states are there as often as it happens.
func random(r *rand.Rand, states, letters int) api.Machine {
	count := r.Intn(states + 1)
	if count == 0 {
		return none(letters)
	}
	ends, nowhere := r.Intn(4), r.Intn(4)
	m := made(count, letters, func(int, int) int {
		if r.Intn(5) < nowhere {
			return -1
		}
		return r.Intn(count)
	}, func(int) bool { return r.Intn(4) < ends })
	m.Start = r.Intn(count)
	return m
}

// inflated returns a machine that accepts the same words, with more states: copies of
// states, among which the next ones are chosen as it happens, and dead ends instead of nowhere.
func inflated(r *rand.Rand, m api.Machine) api.Machine {
	more := m
	more.Next, more.End = nil, nil
	order := r.Perm(3*len(m.Next) + 1) // where the copies of states stand, the dead end last
	copyOf := func(state int) int {
		if state < 0 && r.Intn(2) == 0 {
			return -1
		}
		if state < 0 {
			return order[len(order)-1]
		}
		return order[3*state+r.Intn(3)]
	}
	rows, ends := make([][]int, len(order)), make([]bool, len(order))
	for i, at := range order {
		state := i / 3
		if i == len(order)-1 {
			state = -1
		}
		for letter := range m.Letters {
			rows[at] = append(rows[at], copyOf(leads(m, state, []int{letter})))
		}
		ends[at] = accepting(m, state)
	}
	more.Next, more.End = rows, ends
	more.Start = max(copyOf(m.Start), 0)
	if m.Start < 0 {
		more.Start = order[len(order)-1]
	}
	return more
}
