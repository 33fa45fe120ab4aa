package lang_test

import (
	"testing"

	"doppelganger/api"
	"doppelganger/lang"
)

// wantFill checks what Fill makes of two texts: a text, or an error.
func wantFill(t *testing.T, context, piece, want string, wantErr api.Errno) {
	t.Helper()
	c, p := mustRead(t, context), mustRead(t, piece)
	before := c.Text() + p.Text()
	q, err := lang.Fill(c, p)
	if err != wantErr || (q != nil) != (err == api.OK) || q.Text() != want {
		t.Errorf("Fill(%.150q, %.150q): %.150q, error %d; want %.150q, %d", context, piece, q.Text(), err, want, wantErr)
		return
	}
	if c.Text()+p.Text() != before {
		t.Errorf("Fill(%q, %q) changes a piece", context, piece)
	}
	if err == api.OK {
		if again := mustRead(t, want); show(again.Nodes()) != show(q.Nodes()) || again.Type() != q.Type() {
			t.Errorf("Fill(%q, %q): nodes %s; want %s", context, piece, show(q.Nodes()), show(again.Nodes()))
		}
	}
}

// P1.10: what stands in the place of hole.
func TestFill(t *testing.T) {
	pp := "p : com |- com : p; p"
	wantFill(t, "hole : com, p : com |- com : hole; hole", pp, "p : com |- com : p; p; p; p", api.OK)
	wantFill(t, "hole : com, p : com |- com : skip; hole; stop", pp, "p : com |- com : skip; p; p; stop", api.OK)
	wantFill(t, "hole : com |- com : proc p() : com { stop } { hole }", pp, "|- com : proc p() : com { stop } { p; p }", api.OK)
	wantFill(t, "hole : com, p : com |- com : proc f(p : com) : com { hole } { f({ hole }) }", pp, "p : com |- com : proc f(p : com) : com { p; p } { f({ p; p }) }", api.OK)
	wantFill(t, "hole : exp, q : com |- com : q", "|- exp : 1", "q : com |- com : q", api.OK)
	wantFill(t, "hole : com |- com : skip", pp, "|- com : skip", api.OK)
	wantFill(t, "hole : exp |- com : new x = hole { x := hole + x }", "|- exp : 1 + 2", "|- com : new x = 1 + 2 { x := 1 + 2 + x }", api.OK)
	wantFill(t, "hole : exp |- exp : 3 - hole * 2", "|- exp : 1 - 2", "|- exp : 3 - (1 - 2) * 2", api.OK)
	wantFill(t, "hole : exp, f(exp, com) : exp |- exp : f(hole, { while hole { skip } })", "|- exp : 1", "f(exp, com) : exp |- exp : f(1, { while 1 { skip } })", api.OK)
	wantFill(t, "hole : com |- com : block k { hole; exit k }", "|- com : block k { exit k }", "|- com : block k { block k { exit k }; exit k }", api.OK)
	wantFill(t, "hole : com |- com : new x = 0 { hole; x := 1 }", "|- com : new x = 1 { x := 2 }", "|- com : new x = 0 { new x = 1 { x := 2 }; x := 1 }", api.OK)
}

// P1.10: calls of hole are those of the declared one.
func TestFillOtherHoles(t *testing.T) {
	p := "p : com |- com : p"
	wantFill(t, "hole : com, p : com |- com : proc hole() : com { skip } { hole }", p, "p : com |- com : proc hole() : com { skip } { hole }", api.OK)
	wantFill(t, "hole : com, p : com |- com : proc hole() : com { hole } { hole }; hole", p, "p : com |- com : proc hole() : com { p } { hole }; p", api.OK)
	wantFill(t, "hole : com |- com : proc f(hole : com) : com { hole } { f({ skip }) }", p, "|- com : proc f(hole : com) : com { hole } { f({ skip }) }", api.OK)
	wantFill(t, "hole : exp, p : com |- com : new hole = hole { hole := hole }", "p : com |- exp : 1", "p : com |- com : new hole = 1 { hole := hole }", api.OK)
	wantFill(t, "hole : com, p : com |- com : block hole { exit hole }; hole", p, "p : com |- com : block hole { exit hole }; p", api.OK)
	wantFill(t, "hole : com |- com : hole", "|- com : proc hole() : com { skip } { hole }", "|- com : proc hole() : com { skip } { hole }", api.OK)
	wantFill(t, "hole : com |- com : hole", "hole : com |- com : hole", "", api.ErrName)
	wantFill(t, "hole : com |- com : hole", "hole : com |- com : skip", "", api.ErrName)
	wantFill(t, "hole : com |- com : proc hole() : com { skip } { hole }", "hole : com |- com : hole", "|- com : proc hole() : com { skip } { hole }", api.OK)
}

// P1.10: the context has to have a hole of the type of the piece.
func TestFillErrors(t *testing.T) {
	p := "p : com |- com : p"
	wantFill(t, "p : com |- com : p", p, "", api.ErrNone)
	wantFill(t, "|- com : skip", p, "", api.ErrNone)
	wantFill(t, "hole(com) : com |- com : skip", p, "", api.ErrNone)
	wantFill(t, "hole(com) : exp |- com : skip", p, "", api.ErrNone)
	wantFill(t, "|- com : proc hole() : com { skip } { hole }", p, "", api.ErrNone)
	wantFill(t, "hole : exp |- exp : hole", p, "", api.ErrType)
	wantFill(t, "hole : com |- com : hole", "p : com |- exp : 1", "", api.ErrType)
	wantFill(t, "hole : exp |- com : skip", p, "", api.ErrType)
	read := mustRead(t, p)
	for _, c := range [][2]*lang.Piece{{nil, read}, {read, nil}, {nil, nil}, {{}, read}, {read, {}}, {mustRead(t, "|- com : skip"), {}}} {
		if q, err := lang.Fill(c[0], c[1]); q != nil || err != api.ErrArg {
			t.Errorf("Fill of nil or zero: error %d", err)
		}
	}
}

// P1.10: each declared name of the piece is bound in each hole by something with its types.
func TestFillNames(t *testing.T) {
	p := "p : com |- com : skip" // whether it uses p or not
	f := "f(val, com) : exp |- com : new x = f(1, { skip }) { x := x }"
	for _, c := range []struct {
		context, piece string
		want           api.Errno
	}{
		{"hole : com |- com : hole", p, api.ErrName},
		{"hole : com, p : com |- com : hole", p, api.OK},
		{"hole : com, p : exp |- com : hole", p, api.ErrType},
		{"hole : com, p(com) : com |- com : hole", p, api.ErrType},
		{"hole : com |- com : new p = 0 { hole }", p, api.ErrType},
		{"hole : com, p : com |- com : new p = 0 { hole }", p, api.ErrType},
		{"hole : com, p : exp |- com : new p = 0 { hole }", "p : exp |- com : skip", api.ErrType},
		{"hole : com |- com : block p { hole }", p, api.ErrType},
		{"hole : com |- com : proc p() : com { hole } { skip }", p, api.ErrName},
		{"hole : com |- com : proc p() : com { skip } { hole }", p, api.OK},
		{"hole : com |- com : proc p() : exp [ 1 ] { hole }", p, api.ErrType},
		{"hole : com |- com : proc p(a : com) : com { skip } { hole }", p, api.ErrType},
		{"hole : com |- com : proc q(p : com) : com { hole } { skip }", p, api.OK},
		{"hole : com |- com : proc q(p : exp) : com { hole } { skip }", p, api.ErrType},
		{"hole : com |- com : proc q(p : exp) : com { hole } { skip }", "p : exp |- com : skip", api.OK},
		{"hole : com |- com : proc q(p : val) : com { hole } { skip }", "p : exp |- com : skip", api.ErrType},
		{"hole : com |- com : proc q(p : com) : com { hole } { skip }", "p(com) : com |- com : skip", api.ErrType},
		{"hole : com |- com : proc q(p : com) : com { skip } { hole }", p, api.ErrName},
		{"hole : com, f(val, com) : exp |- com : hole", f, api.OK},
		{"hole : com, f(exp, com) : exp |- com : hole", f, api.ErrType},
		{"hole : com, f(val) : exp |- com : hole", f, api.ErrType},
		{"hole : com, f(val, com) : com |- com : hole", f, api.ErrType},
		{"hole : com |- com : proc f(a : val, b : com) : exp [ a ] { hole }", f, api.OK},
		{"hole : com |- com : proc f(a : exp, b : com) : exp [ a ] { hole }", f, api.ErrType},
		{"hole : com |- com : proc f(b : com, a : val) : exp [ a ] { hole }", f, api.ErrType},
		{"hole : com |- com : proc f(f : com) : com { hole } { skip }", "f : com |- com : f", api.OK},
		// Each context and piece have an own order: calls of hole, then names.
		{"hole : com, p : exp |- com : hole", "p : com, q : com |- com : skip", api.ErrType},
		{"hole : com, q : exp |- com : hole", "p : com, q : com |- com : skip", api.ErrName},
		{"hole : com, p : exp |- com : hole", "q : com, p : com |- com : skip", api.ErrType},
		{"hole : com |- com : proc f(p : exp) : com { hole } { hole }", p, api.ErrType},
		{"hole : com |- com : hole; new p = 0 { hole }", p, api.ErrName},
		{"hole : com |- com : new p = 0 { hole }; hole", p, api.ErrType},
		{"hole : com, p : com |- com : hole; new p = 0 { hole }", p, api.ErrType},
		{"hole : com, f(com, com) : com |- com : f({ new p = 0 { hole } }, { hole })", p, api.ErrType},
	} {
		q, err := lang.Fill(mustRead(t, c.context), mustRead(t, c.piece))
		if err != c.want || (q != nil) != (err == api.OK) {
			t.Errorf("Fill(%q, %q): error %d; want %d", c.context, c.piece, err, c.want)
		}
	}
}

// P1.4, P1.10: the limits of what is filled, behind the other errors.
func TestFillLimits(t *testing.T) {
	for _, c := range []struct {
		context, piece string
		want           api.Errno
	}{
		{row(2, "hole"), row(150, "skip"), api.OK},
		{row(2, "hole"), row(151, "skip"), api.ErrFull},
		{row(300, "hole"), "skip", api.OK},
		{row(300, "hole"), row(300, "skip"), api.ErrFull},
		{"new x = 0 { " + row(2, "hole") + "; x := 1 }", row(149, "skip"), api.OK}, // 2 + 298 Seq + 298 + 2
		{"new x = 0 { " + row(2, "hole") + "; x := 1; x := 1 }", row(149, "skip"), api.ErrFull},
		{nested(30, "hole"), nested(29, "skip"), api.OK},
		{nested(30, "hole"), nested(30, "skip"), api.ErrFull},
		{nested(58, "skip; hole"), "skip; skip", api.OK}, // one row
		{nested(59, "hole"), "skip; skip", api.ErrFull},
		{nested(59, "hole"), "skip", api.OK},
	} {
		q, err := lang.Fill(mustRead(t, "hole : com |- com : "+c.context), mustRead(t, "|- com : "+c.piece))
		if err != c.want || (q != nil) != (err == api.OK) {
			t.Errorf("Fill(%.80q, %.80q): error %d; want %d", c.context, c.piece, err, c.want)
		}
	}
	late := "|- com : " + row(150, "hole") + "; new p = 0 { hole }"
	for context, want := range map[string]api.Errno{
		"hole : com " + late:          api.ErrName,
		"hole : com, p : com " + late: api.ErrType,
	} {
		if _, err := lang.Fill(mustRead(t, context), mustRead(t, "p : com |- com : "+row(300, "p"))); err != want {
			t.Errorf("a context that is too great: error %d; want %d", err, want)
		}
	}
}
