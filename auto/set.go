package auto

import (
	"math/bits"

	"doppelganger/api"
)

const wordBits = 64

// set is a set of states of a machine, a bit for each.
type set [(api.MaxStates + wordBits - 1) / wordBits]uint64

// chunk is a word of a set, and where it stands. What is joined to sets often is
// kept as a list of chunks: those that are zero, most of them as a rule, are left out.
type chunk struct {
	at   int
	word uint64
}

func (s *set) add(state int) {
	s[state/wordBits] |= 1 << (state % wordBits)
}

func (s *set) has(state int) bool {
	return s[state/wordBits]>>(state%wordBits)&1 == 1
}

func (s *set) join(chunks []chunk) {
	for _, c := range chunks {
		s[c.at] |= c.word
	}
}

func (s *set) chunks() []chunk {
	var chunks []chunk
	for at, word := range s {
		if word != 0 {
			chunks = append(chunks, chunk{at, word})
		}
	}
	return chunks
}

// each yields the states of a set, the lowest one first.
func (s *set) each(yield func(state int) bool) {
	for at, word := range s {
		for ; word != 0; word &= word - 1 {
			if !yield(at*wordBits + bits.TrailingZeros64(word)) {
				return
			}
		}
	}
}
