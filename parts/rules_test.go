package parts_test

import (
	"math/rand"
	"reflect"
	"testing"

	"doppelganger/api"
	"doppelganger/lang"
	"doppelganger/parts"
)

// P1 of DOC.md, P7.2, P7.3: nil and the zero value are no modules.
func TestNothing(t *testing.T) {
	for _, m := range []*parts.Module{nil, {}, new(parts.Module)} {
		if text := m.Text(); text != "" {
			t.Errorf("no module has the text %q", text)
		}
		if decls := m.Operations(); len(decls) != 0 {
			t.Errorf("no module has the operations %v", decls)
		}
		if p, err := m.Piece(); p != nil || err != api.ErrArg {
			t.Errorf("no module has the piece %s, error %d", p.Text(), err)
		}
	}
}

// P1 of DOC.md: all texts come to an end, with a module or an error.
func TestAnyText(t *testing.T) {
	r := rand.New(rand.NewSource(1))
	const letters = "newx=0;a:com{skip}exp[1]client \n\t:=\x00\xff\r(),|-é9"
	for range 20000 {
		text := make([]byte, r.Intn(60))
		for i := range text {
			text[i] = letters[r.Intn(len(letters))]
		}
		if m, err := parts.Read(string(text)); (m == nil) != (err != api.OK) {
			t.Errorf("Read(%q): error %d", text, err)
		}
	}
	for _, part := range []string{"{", "[", "(", "new x = 0;", "a: com {", "a: exp [", "if 1 {", "A", "1", " ", "}", "]", ";", "-", "a: com { skip };"} {
		for _, count := range []int{1, 10, 100, 1000, 3900, 10000} {
			wantRead(t, "a: com { "+many(count, part, "")+" }", api.ErrForm)
			wantRead(t, many(count, part, ""), api.ErrForm)
		}
	}
}

// P3 of DOC.md: what is returned has no memory in common with the module.
func TestResultsAreNew(t *testing.T) {
	m, n := mustRead(t, up), mustRead(t, down)
	other := mustPiece(t, "|- com : stop")
	for range 3 {
		decls := m.Operations()
		if len(decls) != 2 || decls[0].Name != "inc" || decls[1].Name != "get" || decls[1].Result != api.Exp {
			t.Fatalf("Operations: %v", decls)
		}
		decls[0], decls[1].Name = api.Decl{Name: "other", Args: []api.Type{api.Val}, Result: api.Exp}, "one"
		_ = append(decls[:1], decls[0])
		p := pieceOf(t, m)
		if p == pieceOf(t, m) || p.Text() != "client(com, exp) : com |- com : new n = 0 { client({ n := n + 1 }, n) }" {
			t.Fatalf("Piece: %s", p.Text())
		}
		p.Nodes()[0].Name = "other"
		*p = *other
		pairs, err := parts.Relation(m, n)
		if want := [][2][]int{states("0 0"), states("1 3"), states("2 2"), states("3 1")}; err != api.OK || !reflect.DeepEqual(pairs, want) {
			t.Fatalf("Relation: %v, error %d", pairs, err)
		}
		for i := range pairs {
			pairs[i][0][0] = 7
			_ = append(pairs[i][0], 8)
			if pairs[i][1][0] == 7 || i > 0 && pairs[i-1][1][0] != 7 {
				t.Fatalf("lists of a relation share memory: %v", pairs)
			}
			pairs[i][1][0] = 7
		}
		pairs[0] = [2][]int{}
		if is, err := parts.Same(m, n); !is || err != api.OK || m.Text() != up || n.Text() != down {
			t.Fatalf("the modules are %s and %s now", m.Text(), n.Text())
		}
	}
}

// P3 of DOC.md: no two lists of a relation share memory, also of a module with itself.
func TestListsOfOneModule(t *testing.T) {
	m := mustRead(t, four+"a: com { x := x + 1 }; b: com { w := 1 }")
	pairs, err := parts.Relation(m, m)
	if err != api.OK || len(pairs) != 8 {
		t.Fatalf("Relation: %v, error %d", pairs, err)
	}
	for i := range pairs {
		for side := range 2 {
			if len(pairs[i][side]) != api.MaxHidden {
				t.Fatalf("a state is %v", pairs[i][side])
			}
			for j := range pairs[i][side] {
				pairs[i][side][j] += 10 * (2*i + side + 1)
			}
		}
	}
	for i := range pairs {
		for side := range 2 {
			if pairs[i][side][0]/10 != 2*i+side+1 {
				t.Errorf("lists of a relation share memory: %v", pairs)
			}
		}
	}
}

// P2 of DOC.md: with an error there is nothing else.
func TestNothingWithErrors(t *testing.T) {
	for _, text := range []string{"", "a: com { b }", "new x = 0; a: com { x }", "a: com { " + skips(601) + " }"} {
		if m, err := parts.Read(text); m != nil || err == api.OK {
			t.Errorf("Read(%.100q): error %d, and a module %t", text, err, m != nil)
		}
	}
	for _, other := range []*parts.Module{nil, {}, mustRead(t, "a: com { skip }"), mustRead(t, square), mustRead(t, "a: com { "+tooLong+" }; b: exp [ 1 ]")} {
		if pairs, err := parts.Relation(mustRead(t, up), other); len(pairs) != 0 || err == api.OK {
			t.Errorf("Relation: %v, error %d", pairs, err)
		}
	}
}

// P4 of DOC.md: each call comes to the same, whatever was called before.
func TestCallsAreAlike(t *testing.T) {
	for seed := range int64(30) {
		first, second := twins(seed)
		m, err := parts.Read(first.text())
		n, other := parts.Read(second.text())
		if err != api.OK || other != api.OK {
			continue
		}
		text, piece := m.Text(), pieceOf(t, m).Text()
		want, wantErr := parts.Relation(m, n)
		for range 3 {
			parts.Relation(n, m)
			parts.Relation(m, mustRead(t, up))
			parts.Same(n, n)
			lang.Fill(mustPiece(t, "hole : com |- com : hole"), pieceOf(t, m))
			got, err := parts.Relation(m, n)
			if err != wantErr || !isSameRelation(got, want) || m.Text() != text || pieceOf(t, m).Text() != piece {
				t.Errorf("Relation of %s, and of %s: %v, error %d; before it was %v, error %d", m.Text(), n.Text(), got, err, want, wantErr)
			}
			again, err := parts.Relation(mustRead(t, first.text()), mustRead(t, second.text()))
			if err != wantErr || !isSameRelation(again, want) {
				t.Errorf("Relation of %s, and of %s read anew: %v, error %d; before it was %v, error %d", m.Text(), n.Text(), again, err, want, wantErr)
			}
		}
	}
}

// P6 of DOC.md: numbers of states are from 0 to Width - 1.
func TestNumbersOfStates(t *testing.T) {
	wantRelation(t, "new x = 0; a: com { x := x - 1 }; b: com { x := x * 3 + 2 }", "a: com { skip }; b: com { skip }", "0 ", "1 ", "2 ", "3 ")
	wantRelation(t, "new x = 3; a: com { x := 3 + x + 3 }", "a: com { skip }", "1 ", "3 ")
}
