package tell_test

import (
	"cmp"
	"reflect"
	"slices"
	"testing"

	"doppelganger/api"
	"doppelganger/auto"
	"doppelganger/lang"
	"doppelganger/moves"
	"doppelganger/tell"
)

// mustCertify returns a certificate, and checks that it is that of both machines, and taken.
func mustCertify(t *testing.T, p, q *lang.Piece) []api.Pair {
	t.Helper()
	pairs, err := tell.Certify(p, q)
	if err != api.OK {
		t.Fatalf("Certify(%s, %s): error %d", p.Text(), q.Text(), err)
	}
	a, _ := moves.Plays(p)
	b, _ := moves.Plays(q)
	if want, err := auto.Relate(a, b); err != api.OK || !slices.Equal(pairs, want) {
		t.Errorf("Certify(%s, %s): %v; want %v", p.Text(), q.Text(), pairs, want)
	}
	wantCheck(t, p, q, pairs, api.OK)
	return pairs
}

// wantCheck checks what Check says, and that it does not change the pairs.
func wantCheck(t *testing.T, p, q *lang.Piece, pairs []api.Pair, want ...api.Errno) {
	t.Helper()
	before := slices.Clone(pairs)
	if err := tell.Check(p, q, pairs); !slices.Contains(want, err) {
		t.Errorf("Check(%s, %s, %v): error %d; want one of %v", p.Text(), q.Text(), pairs, err, want)
	}
	if !slices.Equal(pairs, before) {
		t.Errorf("Check changes the pairs")
	}
}

// P5.6, P5.10: certificates of pieces that are the same; pairs that are too few, too many or changed.
func TestCertificates(t *testing.T) {
	for _, texts := range samePairs {
		p, q := mustRead(t, texts[0]), mustRead(t, texts[1])
		pairs := mustCertify(t, p, q)
		for i := range pairs {
			wantCheck(t, p, q, slices.Delete(slices.Clone(pairs), i, i+1), api.ErrApart)
			wantCheck(t, p, q, slices.Insert(slices.Clone(pairs), i, pairs[i]), api.ErrForm)
			changed := slices.Clone(pairs)
			changed[i].B = (changed[i].B + 1) % (len(pairs) + 1)
			wantCheck(t, p, q, changed, api.ErrForm, api.ErrApart)
			changed[i].B = len(pairs)
			wantCheck(t, p, q, changed, api.ErrForm)
			changed[i].B = -2
			wantCheck(t, p, q, changed, api.ErrForm)
		}
		if len(pairs) > 1 {
			slices.Reverse(pairs)
			wantCheck(t, p, q, pairs, api.ErrForm)
			slices.Reverse(pairs)
			wantCheck(t, p, q, nil, api.ErrApart)
		}
		wantCheck(t, p, q, slices.Insert(slices.Clone(pairs), 0, api.Pair{A: -1, B: -1}), api.ErrForm)
		wantCheck(t, p, q, append(slices.Clone(pairs), api.Pair{A: len(pairs), B: 0}), api.ErrForm)
		wantCheck(t, p, q, slices.Insert(slices.Clone(pairs), 0, api.Pair{A: -1, B: 0}), api.ErrForm, api.ErrApart)
	}
}

// P5.6, P5.10: pairs that are too many. No two states of a least machine accept the same, so no pair can be added.
func TestCertificatesWithMorePairs(t *testing.T) {
	p := mustRead(t, "f(com) : com, p : com |- com : f({ p; p; p }); stop")
	q := mustRead(t, "f(com) : com, p : com |- com : f({ new n = 3 { while n { n := n - 1; p } } }); while 1 { skip }")
	pairs := mustCertify(t, p, q)
	for a := range len(pairs) {
		for b := range len(pairs) {
			more := append(slices.Clone(pairs), api.Pair{A: a, B: b})
			wantCheck(t, p, q, more, api.ErrForm)
			slices.SortFunc(more, func(x, y api.Pair) int { return cmp.Or(x.A-y.A, x.B-y.B) })
			if slices.Contains(pairs, api.Pair{A: a, B: b}) {
				wantCheck(t, p, q, more, api.ErrForm)
			} else {
				wantCheck(t, p, q, more, api.ErrApart)
			}
		}
	}
}

// P5.6, P5.10: pairs of other machines.
func TestCertificatesOfOthers(t *testing.T) {
	one, two := mustRead(t, "p : com |- com : p"), mustRead(t, "p : com |- com : p; p")
	three := mustRead(t, "p : com |- com : p; stop")
	all := [][]api.Pair{mustCertify(t, one, one), mustCertify(t, two, two), mustCertify(t, three, three)}
	for i, p := range []*lang.Piece{one, two, three} {
		for j, pairs := range all {
			if i != j {
				wantCheck(t, p, p, pairs, api.ErrForm, api.ErrApart)
			}
		}
	}
}

// P5.6, P5.10: there is no certificate for pieces that are apart.
func TestNoCertificates(t *testing.T) {
	a := newAuthor(17)
	apart := 0
	for i := range 600 {
		s := settings[i%len(settings)]
		p, m := a.piece(t, s.decls, s.typ, 5+a.Intn(15))
		q := a.changed(p)
		other, err := moves.Plays(q)
		if err != api.OK {
			t.Fatalf("Plays(%s): error %d", q.Text(), err)
		}
		if reflect.DeepEqual(m, other) {
			mustCertify(t, p, q)
			continue
		}
		apart++
		if pairs, err := tell.Certify(p, q); len(pairs) != 0 || err != api.ErrApart {
			t.Errorf("Certify(%s, %s): %v, error %d; want ErrApart alone", p.Text(), q.Text(), pairs, err)
		}
		var full, diagonal, some []api.Pair
		for x := range m.Next {
			diagonal = append(diagonal, api.Pair{A: x, B: x})
			for y := range other.Next {
				full = append(full, api.Pair{A: x, B: y})
				if x == 0 && y == 0 || a.Intn(3) == 0 {
					some = append(some, api.Pair{A: x, B: y})
				}
			}
		}
		for _, pairs := range [][]api.Pair{nil, full, diagonal, some, {{A: -1, B: 0}}} {
			wantCheck(t, p, q, pairs, api.ErrForm, api.ErrApart)
		}
	}
	if apart < 100 {
		t.Errorf("only %d pieces are apart", apart)
	}
}
