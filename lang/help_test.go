package lang_test

import (
	"fmt"
	"strings"
	"testing"

	"doppelganger/api"
	"doppelganger/lang"
)

// mustRead reads a text that is right.
func mustRead(t *testing.T, text string) *lang.Piece {
	t.Helper()
	p, err := lang.Read(text)
	if err != api.OK || p == nil {
		t.Fatalf("Read(%.200q): error %d", text, err)
	}
	return p
}

// wantRead checks what Read says of a text.
func wantRead(t *testing.T, text string, want api.Errno) {
	t.Helper()
	p, err := lang.Read(text)
	if err != want || (p != nil) != (want == api.OK) {
		t.Errorf("Read(%.200q): piece %v, error %d; want %d", text, p != nil, err, want)
	}
}

// wantBuild checks what Build says.
func wantBuild(t *testing.T, decls []api.Decl, typ api.Type, nodes []api.Node, want api.Errno) {
	t.Helper()
	p, err := lang.Build(decls, typ, nodes)
	if err != want || (p != nil) != (want == api.OK) {
		t.Errorf("Build(%v, %d, %.200s): piece %v, error %d; want %d", decls, typ, fmt.Sprint(nodes), p != nil, err, want)
	}
}

// row is a text of some equal steps.
func row(count int, step string) string {
	return step + strings.Repeat("; "+step, count-1)
}

// nested is a text within some blocks.
func nested(count int, inner string) string {
	return strings.Repeat("block k { ", count) + inner + strings.Repeat(" }", count)
}

// show is a list of nodes as a text by which two lists can be compared: nil and empty slices look the same.
func show(nodes []api.Node) string {
	return fmt.Sprintf("%+v", nodes)
}
