package tell_test

import (
	"slices"
	"testing"

	"doppelganger/api"
	"doppelganger/lang"
	"doppelganger/tell"
)

// P5.5: differences that end with the fault, and such at whose end the other piece faults.
func TestWitnessesOfFaults(t *testing.T) {
	for _, c := range [][2]string{
		{"|- com : fault", "|- com : skip"},
		{"|- com : fault", "|- com : stop"},
		{"|- com : skip", "|- com : stop"},
		{"|- exp : 2", "|- exp : fault"},
		{"|- exp : 2", "|- exp : 3"},
		{"p : com |- com : p; fault", "p : com |- com : p"},
		{"p : com |- com : p; fault", "p : com |- com : p; stop"},
		{"p : com |- com : p; fault", "p : com |- com : p; p"},
		{"p : com |- com : fault", "p : com |- com : p"},
		{"x : exp |- exp : x", "x : exp |- exp : if x [ 1 ] [ fault ]"},
		{"x : exp |- exp : if x == 3 [ fault ] [ 0 ]", "x : exp |- exp : x * 0"},
		{"f(com) : com |- com : f({ fault })", "f(com) : com |- com : f({ skip })"},
		{"f(com) : com |- com : f({ fault })", "f(com) : com |- com : f({ stop })"},
		{"f(com) : com |- com : block k { f({ exit k }) }", "f(com) : com |- com : f({ fault })"},
		{"f(com) : com |- com : block k { f({ exit k }); stop }; fault", "f(com) : com |- com : block k { f({ exit k }); stop }"},
		{"f(com, exp) : exp, p : com |- exp : f({ p; fault }, 1)", "f(com, exp) : exp, p : com |- exp : f({ p }, 1)"},
		{"f(com, exp) : exp, p : com |- exp : f({ p }, 1) + 1", "f(com, exp) : exp, p : com |- exp : if f({ p }, 1) [ fault ] [ 1 ]"},
		{"f(val) : com |- com : f(1); fault", "f(val) : com |- com : f(1)"},
		{"f(val) : com |- com : f(1)", "f(val) : com |- com : fault"},
	} {
		wantWitness(t, c[0], c[1])
		wantWitness(t, c[1], c[0])
	}
}

// endings counts how random pieces differ.
type endings struct {
	byFault, byOther, against int
}

// note counts the difference of two pieces.
func (e *endings) note(t *testing.T, p, q *lang.Piece) {
	t.Helper()
	play, first, err := tell.Differ(p, q)
	if err != api.OK {
		t.Fatalf("Differ(%s, %s): error %d", p.Text(), q.Text(), err)
	}
	other := p
	if first {
		other = q
	}
	last := len(play) - 1
	switch {
	case play[last] == fault:
		e.byFault++
	case plays(t, other, append(slices.Clone(play[:last]), fault)):
		e.against++
	default:
		e.byOther++
	}
}

// P5.5, P5.9, T5: pieces that are apart have a witness, whichever is the first one.
func TestRandomWitnesses(t *testing.T) {
	a := newAuthor(13)
	var e endings
	for i := range 3000 {
		s := settings[i%len(settings)]
		p, _ := a.piece(t, s.decls, s.typ, 5+a.Intn(25))
		q := a.changed(p)
		if a.Intn(5) == 0 {
			q, _ = a.piece(t, s.decls, s.typ, 5+a.Intn(15))
		}
		same, err := tell.Same(p, q)
		if err != api.OK {
			t.Fatalf("Same(%s, %s): error %d", p.Text(), q.Text(), err)
		}
		if same {
			if c, err := tell.Witness(p, q); c != nil || err != api.ErrSame {
				t.Errorf("Witness(%s, %s): error %d; want ErrSame", p.Text(), q.Text(), err)
			}
			continue
		}
		e.note(t, p, q)
		wantWitness(t, p.Text(), q.Text())
		wantWitness(t, q.Text(), p.Text())
		if t.Failed() {
			return
		}
	}
	if e.byFault < 100 || e.against < 100 || e.byOther < 500 {
		t.Errorf("too few differences of one kind: %+v", e)
	}
}
