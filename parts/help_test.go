package parts_test

import (
	"reflect"
	"strings"
	"testing"

	"doppelganger/api"
	"doppelganger/lang"
	"doppelganger/parts"
)

// mustRead reads the text of a module that is right.
func mustRead(t *testing.T, text string) *parts.Module {
	t.Helper()
	m, err := parts.Read(text)
	if err != api.OK || m == nil {
		t.Fatalf("Read(%.300q): error %d", text, err)
	}
	return m
}

// mustPiece reads the text of a piece that is right.
func mustPiece(t *testing.T, text string) *lang.Piece {
	t.Helper()
	p, err := lang.Read(text)
	if err != api.OK {
		t.Fatalf("lang.Read(%.300q): error %d", text, err)
	}
	return p
}

// pieceOf returns the piece of a module.
func pieceOf(t *testing.T, m *parts.Module) *lang.Piece {
	t.Helper()
	p, err := m.Piece()
	if err != api.OK || p == nil {
		t.Fatalf("Piece of %.300q: error %d", m.Text(), err)
	}
	return p
}

// wantRead checks what comes of a text.
func wantRead(t *testing.T, text string, want api.Errno) {
	t.Helper()
	m, err := parts.Read(text)
	if err != want || (m != nil) != (err == api.OK) {
		t.Errorf("Read(%.400q): error %d; want %d", text, err, want)
	}
}

func wantReads(t *testing.T, want api.Errno, texts ...string) {
	t.Helper()
	for _, text := range texts {
		wantRead(t, text, want)
	}
}

// wantSame checks whether two modules are told to be the same.
func wantSame(t *testing.T, a, b string, want bool) {
	t.Helper()
	is, err := parts.Same(mustRead(t, a), mustRead(t, b))
	if err != api.OK || is != want {
		t.Errorf("Same of %s, and of %s: %t, error %d; want %t", a, b, is, err, want)
	}
}

// states are the values of the variables of two modules, one digit each, as "01 2".
func states(text string) [2][]int {
	first, second, _ := strings.Cut(text, " ")
	return [2][]int{digits(first), digits(second)}
}

func digits(text string) []int {
	values := []int{}
	for _, c := range text {
		values = append(values, int(c-'0'))
	}
	return values
}

// wantRelation checks the pairs of two modules, which are written as states has it.
func wantRelation(t *testing.T, a, b string, want ...string) {
	t.Helper()
	got, err := parts.Relation(mustRead(t, a), mustRead(t, b))
	var pairs [][2][]int
	for _, text := range want {
		pairs = append(pairs, states(text))
	}
	if err != api.OK || !isSameRelation(got, pairs) {
		t.Errorf("Relation of %.200s, and of %.200s: %v, error %d; want %v", a, b, got, err, pairs)
	}
}

// isSameRelation compares relations; an empty list may be nil or not.
func isSameRelation(a, b [][2][]int) bool {
	if len(a) != len(b) {
		return false
	}
	for i := range a {
		for side := range 2 {
			if len(a[i][side])+len(b[i][side]) > 0 && !reflect.DeepEqual(a[i][side], b[i][side]) {
				return false
			}
		}
	}
	return true
}

// wantRelationError checks that two modules have no relation, in either order.
func wantRelationError(t *testing.T, a, b string, want api.Errno) {
	t.Helper()
	m, n := mustRead(t, a), mustRead(t, b)
	for range 2 {
		if got, err := parts.Relation(m, n); err != want || len(got) != 0 {
			t.Errorf("Relation of %.200s, and of %.200s: %v, error %d; want error %d", m.Text(), n.Text(), got, err, want)
		}
		m, n = n, m
	}
}

// many returns a row of some equal parts.
func many(count int, part, between string) string {
	return part + strings.Repeat(between+part, count-1)
}
