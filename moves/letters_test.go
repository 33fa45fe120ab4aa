package moves_test

import (
	"slices"
	"testing"

	"doppelganger/api"
	"doppelganger/moves"
)

// The moves, written as short as they are in the tests of Letters.
func asks(name string, value int) api.Move { return api.Move{Name: name, Value: value} }
func wants(name string, arg int) api.Move  { return api.Move{Name: name, Arg: arg} }
func tells(name string, value int) api.Move {
	return api.Move{Name: name, Answer: true, Value: value}
}
func gives(name string, arg, value int) api.Move {
	return api.Move{Name: name, Arg: arg, Answer: true, Value: value}
}

var begin, faults, done = api.Move{}, api.Move{Fault: true}, api.Move{Answer: true}

// wantLetters checks the letters of declarations, and that these are not changed.
func wantLetters(t *testing.T, decls []api.Decl, typ api.Type, want []api.Move) {
	t.Helper()
	before := slices.Clone(decls)
	got := moves.Letters(decls, typ)
	if !slices.Equal(got, want) {
		t.Errorf("Letters(%v, %d): %v; want %v", decls, typ, got, want)
	}
	if !slices.EqualFunc(decls, before, func(a, b api.Decl) bool {
		return a.Name == b.Name && a.Result == b.Result && slices.Equal(a.Args, b.Args)
	}) {
		t.Errorf("Letters changes its declarations")
	}
}

// P4.3: the order of the moves of a piece, and of a name.
func TestLetters(t *testing.T) {
	one, four := []api.Move{begin, done, faults}, []api.Move{begin, done, tells("", 1), tells("", 2), tells("", 3), faults}
	wantLetters(t, nil, api.Com, one)
	wantLetters(t, []api.Decl{}, api.Exp, four)
	wantLetters(t, []api.Decl{{Name: "p"}}, api.Com, append(slices.Clone(one), asks("p", 0), tells("p", 0)))
	wantLetters(t, []api.Decl{{Name: "x", Result: api.Exp}}, api.Exp, append(slices.Clone(four),
		asks("x", 0), tells("x", 0), tells("x", 1), tells("x", 2), tells("x", 3)))
	wantLetters(t, []api.Decl{{Name: "f", Args: []api.Type{api.Exp, api.Com}}}, api.Com, append(slices.Clone(one),
		asks("f", 0), tells("f", 0),
		wants("f", 1), gives("f", 1, 0), gives("f", 1, 1), gives("f", 1, 2), gives("f", 1, 3),
		wants("f", 2), gives("f", 2, 0)))
	wantLetters(t, []api.Decl{{Name: "hole"}}, api.Com, append(slices.Clone(one), asks("hole", 0), tells("hole", 0)))
}

// P4.3: arguments by value make questions; the arguments by name keep their numbers.
func TestLettersOfValues(t *testing.T) {
	first := []api.Move{begin, done, faults}
	wantLetters(t, []api.Decl{{Name: "f", Args: []api.Type{api.Val}}}, api.Com, append(slices.Clone(first),
		asks("f", 0), asks("f", 1), asks("f", 2), asks("f", 3), tells("f", 0)))
	wantLetters(t, []api.Decl{{Name: "f", Args: []api.Type{api.Val, api.Com, api.Val}, Result: api.Exp}}, api.Com, slices.Concat(first,
		questions("f", 16), []api.Move{tells("f", 0), tells("f", 1), tells("f", 2), tells("f", 3), wants("f", 2), gives("f", 2, 0)}))
	wantLetters(t, []api.Decl{{Name: "f", Args: []api.Type{api.Com, api.Val, api.Exp}}}, api.Com, slices.Concat(first,
		questions("f", 4), []api.Move{tells("f", 0), wants("f", 1), gives("f", 1, 0),
			wants("f", 3), gives("f", 3, 0), gives("f", 3, 1), gives("f", 3, 2), gives("f", 3, 3)}))
	wantLetters(t, []api.Decl{{Name: "f", Args: []api.Type{api.Val, api.Val, api.Val}}}, api.Com, slices.Concat(first,
		questions("f", 64), []api.Move{tells("f", 0)}))
}

// questions is the questions about a name, with some values.
func questions(name string, count int) []api.Move {
	var list []api.Move
	for value := range count {
		list = append(list, asks(name, value))
	}
	return list
}

// P4.3: declarations may stand in any order; their moves stand in the order of names.
func TestLettersInAnyOrder(t *testing.T) {
	a, b := api.Decl{Name: "a", Args: []api.Type{api.Com}}, api.Decl{Name: "b", Result: api.Exp}
	aa, z := api.Decl{Name: "aa"}, api.Decl{Name: "z", Args: []api.Type{api.Val}}
	want := slices.Concat([]api.Move{begin, done, faults},
		[]api.Move{asks("a", 0), tells("a", 0), wants("a", 1), gives("a", 1, 0)},
		[]api.Move{asks("aa", 0), tells("aa", 0)},
		[]api.Move{asks("b", 0), tells("b", 0), tells("b", 1), tells("b", 2), tells("b", 3)},
		questions("z", 4), []api.Move{tells("z", 0)})
	wantLetters(t, []api.Decl{a, aa, b, z}, api.Com, want)
	wantLetters(t, []api.Decl{z, b, aa, a}, api.Com, want)
	wantLetters(t, []api.Decl{b, z, a, aa}, api.Com, want)
}

// P4.3: as many letters as there may be.
func TestMostLetters(t *testing.T) {
	var decls []api.Decl
	for _, name := range []string{"a", "b", "c", "abcdefgh"} {
		decls = append(decls, api.Decl{Name: name, Args: []api.Type{api.Val, api.Val, api.Val}, Result: api.Exp})
	}
	if got := len(moves.Letters(decls, api.Exp)); got != 6+4*68 {
		t.Errorf("%d letters; want %d", got, 6+4*68)
	}
}

// P4.3: declarations that no text has, and other types: no moves.
func TestNoLetters(t *testing.T) {
	for _, typ := range []api.Type{api.Val, 3, -1} {
		wantLetters(t, nil, typ, nil)
		wantLetters(t, []api.Decl{{Name: "p"}}, typ, nil)
	}
	for _, decls := range [][]api.Decl{
		{{Name: ""}}, {{Name: "P"}}, {{Name: "p q"}}, {{Name: "a1"}}, {{Name: "abcdefghi"}}, {{Name: "skip"}}, {{Name: "val"}}, {{Name: "é"}},
		{{Name: "p"}, {Name: "p"}}, {{Name: "p"}, {Name: "q"}, {Name: "p", Result: api.Exp}},
		{{Name: "p", Result: api.Val}}, {{Name: "p", Result: 3}}, {{Name: "p", Result: -1}},
		{{Name: "p", Args: []api.Type{3}}}, {{Name: "p", Args: []api.Type{api.Com, -1}}},
		{{Name: "p", Args: []api.Type{api.Com, api.Com, api.Com, api.Com}}},
		{{Name: "a"}, {Name: "b"}, {Name: "c"}, {Name: "d"}, {Name: "e"}},
	} {
		wantLetters(t, decls, api.Com, nil)
		wantLetters(t, decls, api.Exp, nil)
	}
}
