package auto

import "slices"

// partition is the states of a graph in blocks, which are split round by round:
// behind round k two states are in one block if the same words of fewer than k
// letters are accepted from both.
type partition struct {
	states []int32 // block by block
	place  []int   // of each state among them
	block  []int   // of each state
	blocks []block // each behind the one of which it was a part
	counts []int   // of blocks, behind each round
	marked []int   // the blocks in which states are marked
}

// block is some states in a row; those that are marked stand first.
type block struct {
	first, size, marked int
	parent              int // the block of which it was a part behind the round before
}

// refine splits the states of a graph until all that words tell apart are apart.
func refine(g *graph) *partition {
	p := whole(len(g.end))
	for state, end := range g.end {
		if end {
			p.mark(state)
		}
	}
	p.split()
	back := sourcesOf(g)
	for p.endRound() {
		for _, part := range p.parts() {
			for letter := range g.letters {
				for _, state := range part {
					for _, source := range back.of(state, letter) {
						p.mark(int(source))
					}
				}
				p.split()
			}
		}
	}
	return p
}

// whole returns the partition with a single block, behind round 0.
func whole(states int) *partition {
	p := &partition{block: make([]int, states), blocks: []block{{size: states}}, counts: []int{1}}
	for state := range states {
		p.states = append(p.states, int32(state))
		p.place = append(p.place, state)
	}
	return p
}

// mark marks a state, once.
func (p *partition) mark(state int) {
	own := p.block[state]
	b := &p.blocks[own]
	if b.marked == 0 {
		p.marked = append(p.marked, own)
	}
	to, from := b.first+b.marked, p.place[state]
	other := p.states[to]
	p.states[to], p.states[from] = int32(state), other
	p.place[state], p.place[other] = to, from
	b.marked++
}

// split makes the marked states of each block a block of their own, unless these are all of it.
func (p *partition) split() {
	for _, old := range p.marked {
		b := &p.blocks[old]
		part := block{first: b.first, size: b.marked, parent: old}
		b.marked = 0
		if part.size == b.size {
			continue
		}
		if old >= p.counts[p.round()] {
			part.parent = b.parent
		}
		b.first += part.size
		b.size -= part.size
		for _, state := range p.members(part) {
			p.block[state] = len(p.blocks)
		}
		p.blocks = append(p.blocks, part)
	}
	p.marked = p.marked[:0]
}

func (p *partition) members(b block) []int32 {
	return p.states[b.first : b.first+b.size]
}

// round returns the number of rounds that are over.
func (p *partition) round() int {
	return len(p.counts) - 1
}

// endRound ends a round, and reports whether blocks were split in it.
func (p *partition) endRound() bool {
	p.counts = append(p.counts, len(p.blocks))
	return p.counts[p.round()] > p.counts[p.round()-1]
}

// parts returns the states of the blocks that the last round left, without those
// that it did not split, and without the largest part of each one that it split:
// what leads to that part is what is left of all that leads to the split one, which
// is told apart from the rest already. So no state is looked at often.
func (p *partition) parts() [][]int32 {
	var parts [][]int32
	largest := map[int]int{}
	for part := p.counts[p.round()-1]; part < p.counts[p.round()]; part++ {
		parent := p.blocks[part].parent
		rival, known := largest[parent]
		if !known {
			rival = parent
		}
		smaller := part
		if p.blocks[part].size > p.blocks[rival].size {
			rival, smaller = part, rival
		}
		largest[parent] = rival
		parts = append(parts, slices.Clone(p.members(p.blocks[smaller])))
	}
	return parts
}

// apart reports whether two states are in different blocks behind a round. It may
// be asked of earlier and earlier rounds only: what a state's block was behind
// later ones is forgotten.
func (p *partition) apart(a, b, round int) bool {
	return p.goBack(a, round) != p.goBack(b, round)
}

func (p *partition) goBack(state, round int) int {
	for p.block[state] >= p.counts[round] {
		p.block[state] = p.blocks[p.block[state]].parent
	}
	return p.block[state]
}
