package auto_test

import (
	"math"
	"math/rand"
	"testing"

	"doppelganger/api"
	"doppelganger/auto"
)

// P3.8: the number of accepted words of a length.
func TestCount(t *testing.T) {
	fibonacci := machine("*[0 1], *[0 -1]") // no two letters 1 in a row
	for length, want := range []uint64{1, 2, 3, 5, 8, 13, 21, 34, 55, 89, 144} {
		wantCount(t, fibonacci, length, want)
	}
	for length := range 6 {
		one := uint64(0)
		if length == 0 {
			one = 1
		}
		wantCount(t, none(2), length, 0)
		wantCount(t, none(0), length, 0)
		wantCount(t, machine("[0 0]"), length, 0)
		wantCount(t, machine("*[]"), length, one)
		wantCount(t, machine("[]"), length, 0)
		wantCount(t, machine("*[-1 -1]"), length, one)
		wantCount(t, machine("*[0]"), length, 1)
	}
	wantCount(t, machine("[1 1 1], *[0 0 1]"), 1, 3)
	wantCount(t, machine("[1 1 1], *[0 0 1]"), 2, 3)
	wantCount(t, machine("[1 1 1], *[0 0 1]"), 3, 21)
	wantCount(t, broken(machine("[1 1 1], *[0 0 1]"), func(m *api.Machine) { m.Start = 1 }), 0, 1)
	wantCount(t, broken(machine("[1 1 1], *[0 0 1]"), func(m *api.Machine) { m.Start = 1 }), 1, 1)
}

// P3.8: lengths from 0 to 1000; ErrArg for others.
func TestCountLengths(t *testing.T) {
	wantCount(t, machine(even), 0, 1)
	wantCount(t, machine(even), 999, 0)
	wantCount(t, machine(even), 1000, 1)
	wantCount(t, cycle(1000, 1, 0, is(0)), 1000, 1)
	wantCount(t, cycle(1001, 1, 0, is(1000)), 1000, 1)
	for _, m := range []api.Machine{machine(even), machine("*[]"), none(0), none(3)} {
		for _, length := range []int{-1, 1001, 1 << 40, math.MinInt, math.MaxInt} {
			if got, err := auto.Count(m, length); got != 0 || err != api.ErrArg {
				t.Errorf("Count of %s, %d: %d, error %d; want ErrArg", show(m), length, got, err)
			}
		}
	}
}

// P3.8: numbers are modulo 2^64.
func TestCountModulo(t *testing.T) {
	power := func(base uint64, exponent int) uint64 {
		result := uint64(1)
		for range exponent {
			result *= base
		}
		return result
	}
	wantCount(t, machine("*[0 0]"), 63, 1<<63)
	wantCount(t, machine("*[0 0]"), 64, 0)
	wantCount(t, machine("*[0 0]"), 1000, 0)
	wantCount(t, machine("*[0 0 0]"), 40, 12157665459056928801) // 3^40 is below 2^64
	for _, length := range []int{41, 100, 1000} {
		wantCount(t, machine("*[0 0 0]"), length, power(3, length))
	}
	wantCount(t, stay(3, api.MaxSigns-1), 1000, power(api.MaxSigns-1, 1000))
	// All words of 64 letters but one.
	wantCount(t, machine("[0 1], *[1 1]"), 64, math.MaxUint64)
}

// P3.8, over random machines: how many of all words are accepted.
func TestCountOfRandom(t *testing.T) {
	r := rand.New(rand.NewSource(8))
	for range 1000 {
		m := random(r, 6, r.Intn(4))
		for length := range 6 {
			want := uint64(0)
			for word := range words(m.Letters, length) {
				if accepting(m, leads(m, m.Start, word)) {
					want++
				}
			}
			wantCount(t, m, length, want)
		}
	}
}
